/- Own texts, joined: contracts that the law's proof goes by. -/
import Derived.Test.YtiaafgmjigbjlaaGreatDoorDrC
import Derived.Handy
import Derived.Test.YtiaafgmjigbjlaaGreatDoorDrA
import Derived.Test.YtiaafgmjigbjlaaGreatDoorMLFnBagBytes1
import Derived.Test.YtiaafgmjigbjlaaGreatDoorDrB
import Derived.Test.YtiaafgmjigbjlaaGreatDoorToB
import Derived.Test.YtiaafgmjigbjlaaGreatDoorVEq
import Derived.Test.YtiaafgmjigbjlaaGreatDoorRowK
import Derived.Test.YtiaafgmjigbjlaaGreatDoorBagC
import Derived.Deep.RegionHeld3
import Derived.BigQuiet
import Derived.Test.YtiaafgmjigbjlaaGreatDoorBsK
import Derived.Test.YtiaafgmjigbjlaaGreatDoorShelf
import Derived.Lib.Join
import Derived.Maps.AppendAt
import Derived.Test.YtiaafgmjigbjlaaGreatDoorVtP
import Derived.Test.YtiaafgmjigbjlaaGreatDoorVtI
import Derived.Test.YtiaafgmjigbjlaaGreatDoorTake
import Derived.Test.YtiaafgmjigbjlaaGreatDoorVOkSpec
import Derived.WalkKit
import Derived.WalkSpells
import Derived.WalkLawsBesides
import Derived.Below
import Derived.Deep.DeepCutAuto
/- Own text. A value that is drawn, of a wrong kind now and then. -/
namespace Go.Proofs.YtiaafgmjigbjlaaGreatDoor
open Go.RowKit Go.Deep
set_option linter.unusedVariables false
theorem VarV.set0 {w : World} {N : Nat} {k n : Int} {s : ByteArray} (h : VarV w N k n s) (k' : Int) : VarV (w.setCell ⟨N, 0, none⟩ (.int .i64 k')) N k' n s :=
  ⟨by simpa using h.lt, fun o => by rw [World.frozen?_setCell]; exact h.fr o, World.cell?_setCell_same _ _ _ h.c0, (World.cell?_setCell_other _ _ _ _ (by simp)).trans h.c1, (World.cell?_setCell_other _ _ _ _ (by simp)).trans h.c2⟩
theorem VarV.put {w : World} {N : Nat} {k n : Int} {s : ByteArray} (h : VarV w N k n s) (k' n' : Int) (s' : ByteArray) : VarV (((w.setCell ⟨N, 0, none⟩ (.int .i64 k')).setCell ⟨N, 1, none⟩ (.int .i64 n')).setCell ⟨N, 2, none⟩ (.string s')) N k' n' s' := by
  refine ⟨by simpa using h.lt, fun o => by simp only [World.frozen?_setCell]; exact h.fr o, ?_, ?_, ?_⟩
  · exact (World.cell?_setCell_other _ _ _ _ (by simp)).trans ((World.cell?_setCell_other _ _ _ _ (by simp)).trans (World.cell?_setCell_same _ _ _ h.c0))
  · exact (World.cell?_setCell_other _ _ _ _ (by simp)).trans (World.cell?_setCell_same _ _ _ ((World.cell?_setCell_other _ _ _ _ (by simp)).trans h.c1))
  · exact World.cell?_setCell_same _ _ _ ((World.cell?_setCell_other _ _ _ _ (by simp)).trans ((World.cell?_setCell_other _ _ _ _ (by simp)).trans h.c2))
theorem VarV.other {w : World} {N : Nat} {k n : Int} {s : ByteArray} (h : VarV w N k n s) {p : Addr} (hp : N ≠ p.block) (u : Value) : VarV (w.setCell p u) N k n s := h.keep (by simp) (Below.heap_setCell _ _ _ _ hp)
theorem VarV.alloc {w : World} {N : Nat} {k n : Int} {s : ByteArray} (h : VarV w N k n s) (o : Obj) : VarV (w.alloc o) N k n s := h.below ((Below.refl _ _).alloc (Nat.le_refl _) _)
end Go.Proofs.YtiaafgmjigbjlaaGreatDoor
/- Own text. A new cursor over bytes. -/
namespace Go.Proofs.YtiaafgmjigbjlaaGreatDoor
open Go.RowKit Go.Deep
set_option linter.unusedVariables false
theorem Cur.new {w : World} {v : Value} {l : Nat} (h : BytesB w w.heap.size v l) (g : Int) (t : TypeId) : Cur (w.alloc (.cells #[v, .int .i64 0, .int .i64 g] t)) w.heap.size v l := by
  refine ⟨by simp, fun o => by simp, by simp, ⟨0, by simp, by omega, by omega⟩, ⟨g, by simp⟩, ?_⟩
  obtain ⟨a, c, hv, hl, hm, hb⟩ := h
  refine ⟨a, c, hv, hl, hm, fun j hj => ?_⟩
  obtain ⟨b, o, ha, hlt, x, x0, x1, hx⟩ := hb j hj
  exact ⟨b, o, ha, hlt, x, x0, x1, (cell_blk (Below.heap_alloc w _ _ hlt)).trans hx⟩
set_option maxHeartbeats 4000000 in
set_option maxRecDepth 100000 in
theorem l01New_any (v : Value) (l : Nat) (w : World) (h : BytesB w w.heap.size v l) :
    Calls Tryz.prog 16 #[v] w fun e w' => e = .returned (.pointer (some ⟨w.heap.size, 0, none⟩)) ∧ Cur w' w.heap.size v l ∧ Below w.heap.size w w' := by
  have h' := h
  obtain ⟨a, c, rfl, hl, hm, hb⟩ := h'
  go_enter Tryz.func16, Tryz.ntmps16
  go_wp2_with fail
  go_loopw [3, 4] (fun o i wr => ∃ (g : Int) (k : Nat), o = .int .i64 g ∧ i = .int .i64 k ∧ k ≤ l ∧ wr = w) (fun _ i _ => l - (intOf i).toNat)
  case atStart => exact ⟨_, 0, rfl, rfl, Nat.zero_le _, rfl⟩
  case round =>
    obtain ⟨g, k, rfl, rfl, hk, rfl⟩ := hrel
    by_cases hlt : k < l
    · obtain ⟨b, o, rfl, hbl, y, y0, y1, hy⟩ := hb k hlt
      by_cases h4 : k < 4000
      · clear hb
        go_wp2_with fail
        exact ⟨⟨_, k + 1, rfl, by simp, by omega, trivial⟩, by simp [intOf]; omega⟩
      · clear hb
        go_wp2_with fail
        go_returns
        exact ⟨rfl, Cur.new h _ _, by go_grown⟩
    · obtain rfl : k = l := by omega
      clear hb
      go_wp2_with fail
      go_returns
      exact ⟨rfl, Cur.new h _ _, by go_grown⟩
end Go.Proofs.YtiaafgmjigbjlaaGreatDoor
/- Own text. A draw's beginning. -/
namespace Go.Proofs.YtiaafgmjigbjlaaGreatDoor
open Go.RowKit Go.Deep
set_option linter.unusedVariables false
theorem BytesB.up {w w' : World} {M M' : Nat} {v : Value} {l : Nat} (h : BytesB w M v l) (hb : Below M w w') (hM : M ≤ M') : BytesB w' M' v l := by
  obtain ⟨a, c, hv, hl, hm, hx⟩ := h
  refine ⟨a, c, hv, hl, hm, fun j hj => ?_⟩
  obtain ⟨b, o, ha, hlt, x, x0, x1, he⟩ := hx j hj
  exact ⟨b, o, ha, by omega, x, x0, x1, (cell_blk (hb.block b hlt)).trans he⟩
theorem Drew.new {w w0 w1 w2 : World} {v : Value} {l B : Nat} (h0 : Below w.heap.size w w0) (h1 : Below w0.heap.size w0 w1) (hB : B = w0.heap.size) (hs : B < w1.heap.size) (h2 : Drew B v l w1 w2) : Below w.heap.size w w2 := by
  subst hB
  have := h0.size
  exact h0.trans ((h1.mono this).trans (h2.chg.below (fun b hb => by rcases List.mem_singleton.1 hb with rfl; exact this) (by omega)))
theorem l01New_at (B : Nat) (v : Value) (l : Nat) (w : World) (hB : B = w.heap.size) (h : BytesB w B v l) :
    Calls Tryz.prog 16 #[v] w fun e w' => e = .returned (.pointer (some ⟨B, 0, none⟩)) ∧ Cur w' B v l ∧ Below w.heap.size w w' := by subst hB; exact l01New_any v l w h
end Go.Proofs.YtiaafgmjigbjlaaGreatDoor
/- Own text. The contract of spec.DrawPutBag. -/
namespace Go.Proofs.YtiaafgmjigbjlaaGreatDoor
open Go.RowKit Go.Deep Go.ChangeShapes Go.WideShapes
set_option linter.unusedVariables false
set_option maxHeartbeats 4000000 in
set_option maxRecDepth 100000 in
theorem drawPutBag_any (v : Value) (l : Nat) (w : World) (h : BytesB w w.heap.size v l) :
    Calls Tryz.prog 5 #[v] w fun e w' => (∃ (W : Int) (u : Value) (cs : List C2) (us : List Value) (G : List (List Nat)), e = .returned (.agg #[.int .i64 W, u]) ∧ BgJ W cs ∧ BagOwn w' w.heap.size u cs us G) ∧ Below w.heap.size w w' := by
  have hb0 := (Below.refl w.heap.size w).alloc (Nat.le_refl _) (.cells #[.int .i64 0, .slice none 0 0] 26)
  have hR0 := heap_alloc_new w (.cells #[.int .i64 0, .slice none 0 0] 26)
  go_enter Tryz.func5, Tryz.ntmps5
  go_wp2_with fail
  refine (l01New_at (w.heap.size + 1) v l _ (by simp) (h.up hb0 (by omega))).mono ?_
  rintro e w1 ⟨rfl, hc1, hb1⟩
  have hR1 := (hb1.block w.heap.size (by simp)).trans hR0
  have hB0 := fun w2 => Drew.new (w2 := w2) (v := v) (l := l) hb0 hb1 (by simp) hc1.lt
  have hz1 := hb1.size
  simp only [World.size_alloc] at hz1
  clear hb1 hb0 h hR0
  go_wp2_with fail
  refine (l02Any_any _ v l w1 hc1).mono ?_
  rintro e w2 ⟨⟨W, u, cs, us, G, rfl, hJ, hB⟩, hd2⟩
  have hR2 := hd2.cellsB hR1 (by omega)
  have hBel := hB0 w2 hd2
  have hz2 := hd2.chg.size
  obtain ⟨au, cu, rfl⟩ := hB.shape
  obtain ⟨r0, r1, rf⟩ := bag2 hR2
  have hRl : w.heap.size < w2.heap.size := by omega
  obtain ⟨s0, s1, _⟩ := bag2 (set2 hR2 (.int .i64 W) (.slice au cs.length cu))
  have HO : Hid (BagOwn ((w2.setCell ⟨w.heap.size, 0, none⟩ (.int .i64 W)).setCell ⟨w.heap.size, 1, none⟩ (.slice au cs.length cu)) w.heap.size (.slice au cs.length cu) cs us G) := (hB.keep (by simp) fun b h1 h2 => far2 _ _ (by omega)).weak (by omega)
  have HB : Hid (Below w.heap.size w ((w2.setCell ⟨w.heap.size, 0, none⟩ (.int .i64 W)).setCell ⟨w.heap.size, 1, none⟩ (.slice au cs.length cu))) := (hBel.setCell (p := ⟨w.heap.size, 0, none⟩) (Nat.le_refl _) _).setCell (p := ⟨w.heap.size, 1, none⟩) (Nat.le_refl _) _
  have HJ : Hid _ := hJ
  have HZ0 : Hid _ := s0
  have HZ1 : Hid _ := s1
  clear hB hBel hB0 hd2 hR1 hR2 s0 s1 hc1 hJ
  go_wp2
  have z0 := HZ0.out
  have z1 := HZ1.out
  refine bodyPost_ret (v := .agg #[.int .i64 W, .slice au cs.length cu]) (by simp [results, Tryz.results5, go_sem, z0, z1]) rfl ⟨⟨_, _, cs, us, G, rfl, HJ.out, HO.out⟩, HB.out⟩
end Go.Proofs.YtiaafgmjigbjlaaGreatDoor
/- Own text. What DrawPutValue, DrawNameOk, DrawDecText draw. -/
namespace Go.Proofs.YtiaafgmjigbjlaaGreatDoor
open Go.RowKit Go.Deep
set_option linter.unusedVariables false
set_option maxHeartbeats 1000000 in
set_option maxRecDepth 100000 in
theorem l01Below_big (n : Int) (B : Nat) (v : Value) (l : Nat) (w : World) (h : Cur w B v l) (h1 : 256 < n) (h2 : n ≤ 1000000000) :
    Calls Tryz.prog 20 #[.pointer (some ⟨B, 0, none⟩), .int .i64 n] w fun e w' => (∃ x : Int, e = .returned (.int .i64 x) ∧ 0 ≤ x ∧ x < n) ∧ Drew B v l w w' := by
  go_enter Tryz.func20, Tryz.ntmps20
  go_wp2_with fail
  refine (l01Byte_any B v l w h).mono ?_
  rintro e w1 ⟨⟨x, rfl, x0, x1⟩, hd1⟩
  go_wp2_with fail
  refine (l01Byte_any B v l w1 hd1.cur).mono ?_
  rintro e w2 ⟨⟨y, rfl, y0, y1⟩, hd2⟩
  go_wp2_with fail
  refine (l01Byte_any B v l w2 hd2.cur).mono ?_
  rintro e w3 ⟨⟨z, rfl, z0, z1⟩, hd3⟩
  go_wp2_with fail
  refine (l01Byte_any B v l w3 hd3.cur).mono ?_
  rintro e w4 ⟨⟨u, rfl, u0, u1⟩, hd4⟩
  have a1 : wrap64 (x * 16777216) = x * 16777216 := by unfold wrap64; omega
  have a2 : wrap64 (y * 65536) = y * 65536 := by unfold wrap64; omega
  have a3 : wrap64 (z * 256) = z * 256 := by unfold wrap64; omega
  have a4 : wrap64 (x * 16777216 + y * 65536) = x * 16777216 + y * 65536 := by unfold wrap64; omega
  have a5 : wrap64 (x * 16777216 + y * 65536 + z * 256) = x * 16777216 + y * 65536 + z * 256 := by unfold wrap64; omega
  have a6 : wrap64 (x * 16777216 + y * 65536 + z * 256 + u) = x * 16777216 + y * 65536 + z * 256 + u := by unfold wrap64; omega
  go_wp2_with fail
  go_returns
  exact ⟨⟨_, rfl, Int.emod_nonneg _ (by omega), Int.emod_lt_of_pos _ (by omega)⟩, hd1.trans (hd2.trans (hd3.trans hd4))⟩
end Go.Proofs.YtiaafgmjigbjlaaGreatDoor
/- Own text. A bag that is read: the contract of impl.GetBag. -/
namespace Go.Proofs.YtiaafgmjigbjlaaGreatDoor
open Go.RowKit Go.Deep
set_option linter.unusedVariables false
/-- what GetBag answers: none of an empty text. -/
def ansB (s : ByteArray) : Option (List C2) := if s.size = 0 then none else resI s
def aW (s : ByteArray) : Int := match ansB s with | none => 0 | some _ => bAt s 0
def aC (s : ByteArray) : List C2 := match ansB s with | none => [] | some cs => cs
def aB (s : ByteArray) : Bool := match ansB s with | none => false | some _ => true
theorem ans_none {s : ByteArray} (h : ansB s = none) : aW s = 0 ∧ aC s = [] ∧ aB s = false := by unfold aW aC aB; rw [h]; exact ⟨rfl, rfl, rfl⟩
theorem ans_some {s : ByteArray} {cs : List C2} (h : ansB s = some cs) : aW s = bAt s 0 ∧ aC s = cs ∧ aB s = true := by unfold aW aC aB; rw [h]; exact ⟨rfl, rfl, rfl⟩
theorem wf_64 {n : Int} (h0 : -9223372036854775808 ≤ n) (h1 : n ≤ 9223372036854775807) : (Lit.int .i64 n).wf = true := by
  have e1 : IntKind.i64.min = -9223372036854775808 := by decide
  have e2 : IntKind.i64.max = 9223372036854775807 := by decide
  simp only [Lit.wf, Bool.and_eq_true, decide_eq_true_eq, e1, e2]
  exact ⟨h0, h1⟩
theorem tV_wf (s : ByteArray) (i : Int) : (tV s i).wf := by
  have w0 : (Lit.int .i64 0).wf = true := by decide
  have w1 : (Lit.int .i64 1).wf = true := by decide
  have w2 : (Lit.int .i64 2).wf = true := by decide
  have w3 : (Lit.int .i64 3).wf = true := by decide
  unfold tV getT
  have hnil : (⟨#[]⟩ : ByteArray).size ≤ maxLen := by decide
  split
  · unfold getN
    split
    · exact ⟨w0, w0, hnil⟩
    split
    · refine ⟨w1, wf_64 ?_ ?_, hnil⟩ <;> (dsimp only; unfold numAt wrap64; omega)
    split
    · rename_i h
      refine ⟨w2, wf_64 ?_ ?_, hnil⟩ <;> (dsimp only; omega)
    split
    · rename_i h
      refine ⟨w3, w0, ?_⟩
      dsimp only
      rw [ByteArray.size_extract]
      unfold maxLen
      omega
    · exact ⟨w0, w0, hnil⟩
  · exact ⟨w0, w0, hnil⟩
theorem runI_stop (s : ByteArray) (W : Nat) (n : Nat) (i : Int) (cs : List C2) (h : ¬ (i < s.size ∧ cs.length ≤ 400)) : runI s W n i cs = some cs := by
  cases n with
  | zero => rfl
  | succ n => rw [runI, if_neg h]
theorem valsV_wf (s : ByteArray) : ∀ (n : Nat) (i : Int), VsWf (valsV s n i)
  | 0, _ => by intro y hy; cases hy
  | n + 1, i => by
    intro y hy
    rcases List.mem_cons.1 hy with rfl | hy
    · exact tV_wf s i
    · exact valsV_wf s n _ y hy
theorem rowS_wf (s : ByteArray) (W : Nat) (i : Int) : (rowS s W i).wf := ⟨valsV_wf s W _, (tV_wf s i).2.1⟩
set_option maxHeartbeats 4000000 in
set_option maxRecDepth 100000 in
theorem implGetBag_any (s : ByteArray) (w : World) (hs : s.size ≤ 1048576) :
    Calls Tryz.prog 8 #[.string s] w fun e w' => (∃ u us G, e = .returned (.tuple #[.agg #[.int .i64 (aW s), u], .bool (aB s)]) ∧ BagOwn w' w.heap.size u (aC s) us G) ∧ Below w.heap.size w w' := by
  by_cases hz : s.size = 0
  · have hA := ans_none (s := s) (by unfold ansB; rw [if_pos hz])
    have hnil : s.toList = [] := by rw [ByteArray.toList_eq]; exact List.eq_nil_of_length_eq_zero (by simpa using hz)
    rw [hA.1, hA.2.1, hA.2.2]
    clear hA
    go_enter Tryz.func8, Tryz.ntmps8
    go_wp2_with fail
    refine bodyPost_ret (v := .tuple #[.agg #[.int .i64 0, .slice none 0 0], .bool false]) (by simp [results, Tryz.results8, go_sem, *]) rfl ⟨⟨_, [], [], rfl, BagOwn.nil _ _⟩, by repeat (first | (with_reducible exact Below.refl _ _) | (with_reducible refine Below.drew ?_) | (with_reducible refine Below.alloc ?_ ?hh _; case hh => first | (simp; done) | (simp; omega) | omega) | (with_reducible refine Below.setCell ?_ ?hh _; case hh => first | (simp; done) | (simp; omega) | omega) | refine bstep (by assumption) (by first | (simp; done) | (simp; omega) | omega) ?_)⟩
  have hpos : 0 < s.size := by omega
  have hposI : (0 : Int) < s.size := by omega
  have hne : s.toList.isEmpty = false := by
    rw [ByteArray.toList_eq]
    have : s.data.toList.length ≠ 0 := by simpa using hz
    cases h : s.data.toList with
    | nil => rw [h] at this; simp at this
    | cons a l => rfl
  have hW : bAt s 0 ≤ 255 := by have := bAt_lt s 0; omega
  have e64 : wrap64 (s[0].toNat : Int) = (bAt s 0 : Nat) := by rw [wrap64_byte, bAt_eq s 0 hpos]
  have hA : ansB s = resI s := by unfold ansB; rw [if_neg hz]
  go_enter Tryz.func8, Tryz.ntmps8
  go_wp2_with fail
  go_loopw [5] (fun at' wr => ∃ (n i : Nat) (cs : List C2) (y : Value) (us : List Value) (G : List (List Nat)), at' = .int .i64 i ∧ i ≤ s.size ∧ s.size + 1 ≤ n + i ∧ cs.length ≤ 401 ∧ runI s (bAt s 0) (s.size + 1) 1 [] = runI s (bAt s 0) n i cs ∧ CsWf cs ∧
      wr.cell? ⟨w.heap.size + 1, 0, none⟩ = some (.int .i64 (bAt s 0)) ∧ wr.cell? ⟨w.heap.size + 1, 1, none⟩ = some y ∧ (∀ o, wr.frozen? ⟨w.heap.size + 1, o, none⟩ = false) ∧
      wr.cell? ⟨w.heap.size, 0, none⟩ = some (.int .i64 0) ∧ wr.cell? ⟨w.heap.size, 1, none⟩ = some (.slice none 0 0) ∧ (∀ o, wr.frozen? ⟨w.heap.size, o, none⟩ = false) ∧
      BagOwn wr (w.heap.size + 1 + 1) y cs us G ∧ Below w.heap.size w wr ∧ w.heap.size + 1 + 1 ≤ wr.heap.size) (fun at' _ => s.size + 1 - (intOf at').toNat)
  case atStart =>
    refine ⟨s.size + 1, 1, [], .slice none 0 0, [], [], rfl, by omega, by omega, by simp, rfl, by simp [CsWf], by go_simp, by go_simp, fun o => by go_simp, by go_simp, by go_simp, fun o => by go_simp, BagOwn.nil _ _, by repeat (first | (with_reducible exact Below.refl _ _) | (with_reducible refine Below.drew ?_) | (with_reducible refine Below.alloc ?_ ?hh _; case hh => first | (simp; done) | (simp; omega) | omega) | (with_reducible refine Below.setCell ?_ ?hh _; case hh => first | (simp; done) | (simp; omega) | omega) | refine bstep (by assumption) (by first | (simp; done) | (simp; omega) | omega) ?_), by simp⟩
  case round =>
    clear e64 hne
    obtain ⟨n, i, cs, y, us, G, rfl, hi, hf, hcl, hrun0, hcw, p0, p1, pf, r0, r1, rf, hB, hb, hzb⟩ := hrel
    have HR : Hid (runI s (bAt s 0) (s.size + 1) 1 [] = runI s (bAt s 0) n i cs) := hrun0
    clear hrun0
    obtain ⟨ay, cy, rfl⟩ := hB.shape
    have e0 : w.heap.size + 1 < wr.heap.size := by omega
    have e1 : w.heap.size < wr.heap.size := by omega
    have hcI : (cs.length : Int) ≤ 401 := by omega
    by_cases hlt : i < s.size
    · have hltI : (i : Int) < s.size := by omega
      by_cases h400 : cs.length ≤ 400
      · have h400I : decide ((cs.length : Int) ≤ 400) = true := by simp; omega
        obtain ⟨n, rfl⟩ : ∃ n', n = n' + 1 := ⟨n - 1, by omega⟩
        by_cases hk : (tV s i).k = 1
        · by_cases he : endS s (bAt s 0) i < 0
          · have HN : Hid (ansB s = none) := by
              show ansB s = none
              rw [hA]; unfold resI
              rw [HR.out, runI, if_pos ⟨hltI, h400⟩, if_pos (.inr he)]
            go_wp2_with fail
            refine Calls.mono (getCounted_yes s i (bAt s 0) wr hs hW hk) ?_
            rintro e w2 ⟨⟨u, g, rfl, hRF, hOg⟩, hb2⟩
            obtain ⟨au, cu, hu⟩ : ∃ a c, u = .slice a (valsV s (bAt s 0) (tJ s i)).length c := by obtain ⟨a, c, h, _⟩ := hRF; exact ⟨a, c, h⟩
            subst hu
            have hzw := hb2.size
            have hfz := (bcell hb2).2
            have hcz := (bcell hb2).1
            have u0 : w2.cell? ⟨w.heap.size, 0, none⟩ = some (.int .i64 0) := (hcz _ _ (by omega)).trans r0
            have u1 : w2.cell? ⟨w.heap.size, 1, none⟩ = some (.slice none 0 0) := (hcz _ _ (by omega)).trans r1
            have uf : ∀ o, w2.frozen? ⟨w.heap.size, o, none⟩ = false := fun o => (hfz _ _ (by omega)).trans (rf o)
            have q0 : w2.cell? ⟨w.heap.size + 1, 0, none⟩ = some (.int .i64 (bAt s 0)) := (hcz _ _ (by omega)).trans p0
            have q1 : w2.cell? ⟨w.heap.size + 1, 1, none⟩ = some (.slice ay cs.length cy) := (hcz _ _ (by omega)).trans p1
            have qf : ∀ o, w2.frozen? ⟨w.heap.size + 1, o, none⟩ = false := fun o => (hfz _ _ (by omega)).trans (pf o)
            have hbw2 : Below w.heap.size w w2 := hb.trans (hb2.mono hb.size)
            have n3 : w.heap.size < w2.heap.size := by omega
            have n4 : w.heap.size < w2.heap.size + 1 := by omega
            have n5 : w.heap.size + 1 < w2.heap.size := by omega
            have n6 : w.heap.size + 1 < w2.heap.size + 1 := by omega
            clear hfz hcz p0 p1 pf r0 r1 rf
            clear hB hRF hOg
            go_wp2_with fail
            refine bodyPost_ret (v := .tuple #[.agg #[.int .i64 0, .slice none 0 0], .bool false]) (by simp [results, Tryz.results8, go_sem, *]) rfl ⟨⟨_, [], [], by rw [(ans_none HN.out).1, (ans_none HN.out).2.2], by rw [(ans_none HN.out).2.1]; exact BagOwn.nil _ _⟩, by repeat (first | (with_reducible exact Below.refl _ _) | (with_reducible refine Below.drew ?_) | (with_reducible refine Below.alloc ?_ ?hh _; case hh => first | (simp; done) | (simp; omega) | omega) | (with_reducible refine Below.setCell ?_ ?hh _; case hh => first | (simp; done) | (simp; omega) | omega) | refine bstep (by assumption) (by first | (simp; done) | (simp; omega) | omega) ?_)⟩
          · obtain ⟨e, hee⟩ : ∃ e : Nat, endS s (bAt s 0) i = e := ⟨(endS s (bAt s 0) i).toNat, by omega⟩
            obtain ⟨a', b', ea, eb, hab, hbs, _⟩ := end_round s (bAt s 0) i (by omega)
            have hei : i < e := by omega
            have hes : e ≤ s.size := by omega
            have HS : Hid (runI s (bAt s 0) (n + 1) i cs = runI s (bAt s 0) n e (cs ++ [rowS s (bAt s 0) i])) := by
              show runI s (bAt s 0) (n + 1) i cs = _
              rw [runI, if_pos ⟨hltI, h400⟩, if_neg (by omega), hee]
            have hgc := getCounted_yes s i (bAt s 0) wr hs hW hk
            rw [hee] at hgc
            have HROW : Hid (rowS s (bAt s 0) i = ⟨valsV s (bAt s 0) (tJ s i), (tV s i).n⟩) := rfl
            have hrw := rowS_wf s (bAt s 0) i
            clear ea eb hee he hk
            generalize valsV s (bAt s 0) (tJ s i) = row at *
            generalize (tV s i).n = rn at *
            go_wp2_with fail
            refine Calls.mono (hgc) ?_
            rintro e w2 ⟨⟨u, g, rfl, hRF, hOg⟩, hb2⟩
            obtain ⟨au, cu, hu⟩ : ∃ a c, u = .slice a row.length c := by obtain ⟨a, c, h, _⟩ := hRF; exact ⟨a, c, h⟩
            subst hu
            have hzw := hb2.size
            have hfz := (bcell hb2).2
            have hcz := (bcell hb2).1
            have u0 : w2.cell? ⟨w.heap.size, 0, none⟩ = some (.int .i64 0) := (hcz _ _ (by omega)).trans r0
            have u1 : w2.cell? ⟨w.heap.size, 1, none⟩ = some (.slice none 0 0) := (hcz _ _ (by omega)).trans r1
            have uf : ∀ o, w2.frozen? ⟨w.heap.size, o, none⟩ = false := fun o => (hfz _ _ (by omega)).trans (rf o)
            have q0 : w2.cell? ⟨w.heap.size + 1, 0, none⟩ = some (.int .i64 (bAt s 0)) := (hcz _ _ (by omega)).trans p0
            have q1 : w2.cell? ⟨w.heap.size + 1, 1, none⟩ = some (.slice ay cs.length cy) := (hcz _ _ (by omega)).trans p1
            have qf : ∀ o, w2.frozen? ⟨w.heap.size + 1, o, none⟩ = false := fun o => (hfz _ _ (by omega)).trans (pf o)
            have hbw2 : Below w.heap.size w w2 := hb.trans (hb2.mono hb.size)
            have n3 : w.heap.size < w2.heap.size := by omega
            have n4 : w.heap.size < w2.heap.size + 1 := by omega
            have n5 : w.heap.size + 1 < w2.heap.size := by omega
            have n6 : w.heap.size + 1 < w2.heap.size + 1 := by omega
            clear hfz hcz p0 p1 pf r0 r1 rf
            clear hgc
            obtain ⟨i0, hi0, hz0, hz1, hz2⟩ := info_parts Tryz.infoCnt
            have hol := ownsRow_lt hB.own
            have hGl := hB.lt
            have hv4 : Value.ownBlock (.slice ay cs.length cy) ≠ some (w.heap.size + 1) := fun e => by have := (hol _ e).1; omega
            have hv2 : Value.ownBlock (.slice ay cs.length cy) ≠ some w.heap.size := fun e => by have := (hol _ e).1; omega
            have hb4 : Below wr.heap.size wr ((w2.alloc (.cells #[.slice au row.length cu, .int .i64 rn] 39)).alloc (.cells #[.slice au row.length cu, .int .i64 rn] 39)) := by (repeat (first | (with_reducible exact Below.refl _ _) | (with_reducible refine Below.drew ?_) | (with_reducible refine Below.alloc ?_ ?hh _; case hh => first | (simp; done) | (simp; omega) | omega) | (with_reducible refine Below.setCell ?_ ?hh _; case hh => first | (simp; done) | (simp; omega) | omega) | refine bstep (by assumption) (by first | (simp; done) | (simp; omega) | omega) ?_)); try exact hb2
            have hB4 := hB.below hb4
            have hb24 : Below w2.heap.size w2 ((w2.alloc (.cells #[.slice au row.length cu, .int .i64 rn] 39)).alloc (.cells #[.slice au row.length cu, .int .i64 rn] 39)) := by repeat (first | (with_reducible exact Below.refl _ _) | (with_reducible refine Below.drew ?_) | (with_reducible refine Below.alloc ?_ ?hh _; case hh => first | (simp; done) | (simp; omega) | omega) | (with_reducible refine Below.setCell ?_ ?hh _; case hh => first | (simp; done) | (simp; omega) | omega) | refine bstep (by assumption) (by first | (simp; done) | (simp; omega) | omega) ?_)
            have hR4 : RowF ((w2.alloc (.cells #[.slice au row.length cu, .int .i64 rn] 39)).alloc (.cells #[.slice au row.length cu, .int .i64 rn] 39)) (.slice au row.length cu) row g := hRF.keep hb24.size fun c hc => hb24.block c (hRF.lt c hc)
            have hO4 : Own ((w2.alloc (.cells #[.slice au row.length cu, .int .i64 rn] 39)).alloc (.cells #[.slice au row.length cu, .int .i64 rn] 39)) (w.heap.size + 1 + 1) g := Own.keep (w := w2) ⟨hOg.1, fun b hb' => by have := hOg.2.1 b hb'; omega, hOg.2.2⟩ fun c hc => hb24.block c (hRF.lt c hc)
            have hnew : ∀ j' u, [Value.slice au row.length cu, Value.int .i64 rn][j']? = some u → ((w2.alloc (.cells #[.slice au row.length cu, .int .i64 rn] 39)).alloc (.cells #[.slice au row.length cu, .int .i64 rn] 39)).cell? ((⟨w2.heap.size + 1, 0, none⟩ : Addr).add j') = some u := by
              intro j' u hu
              match j', hu with
              | 0, hu => simp at hu; subst hu; go_simp
              | 1, hu => simp at hu; subst hu; go_simp
            go_wp2_with (at_builtin; refine wpList_append_own_at _ rfl _ _ 24 rfl (w.heap.size + 1 + 1) 39 i0 _ 2 32 Tryz.underlying24 hi0 hz0 hz1 hz2 rfl (by decide) (.slice ay cs.length cy) cs.length (cc us cs) rfl hB4.own ⟨w2.heap.size + 1, 0, none⟩ 1 1 [.slice au row.length cu, .int .i64 rn] rfl rfl hnew (by simp [Value.oneCell']) ?c3 ?c4 ?c5 ?_)
            case c3 => unfold maxLen; omega
            case c4 => omega
            case c5 => simp; omega
            intro v5 w5 hown5 hgr5 _ hat5
            have hB5 : BagOwn w5 (w.heap.size + 1 + 1) v5 (cs ++ [⟨row, rn⟩]) (us ++ [.slice au row.length cu]) (G ++ [g]) := hB4.push hR4 hO4 (fun b hb1 hb2' => by have := hGl b hb1; have := hOg.2.1 b hb2'; omega) (fun b hb1 hb2' => by have := (hol b hb1).2; have := hOg.2.1 b hb2'; omega) hown5 hgr5 (fun b hb1 => by
              rcases hat5 with e | e
              · left; rw [← e]; exact hb1
              · right; rw [e] at hb1; cases hb1; first | exact Nat.le_refl _ | simp | (simp; omega))
            have hsz5 := hgr5.size
            simp at hsz5
            have A0 : w5.cell? ⟨w.heap.size + 1, 0, none⟩ = some (.int .i64 (bAt s 0)) := (hgr5.cell_far _ (by simp; try omega) (fun e => hv4 e.symm)).trans (by go_simp)
            have A1 : w5.cell? ⟨w.heap.size + 1, 1, none⟩ = some (.slice ay cs.length cy) := (hgr5.cell_far _ (by simp; try omega) (fun e => hv4 e.symm)).trans (by go_simp)
            have Af : ∀ o, w5.frozen? ⟨w.heap.size + 1, o, none⟩ = false := fun o => (hgr5.frozen_far _ (by simp; try omega) (fun e => hv4 e.symm)).trans (by go_simp)
            have D0 : w5.cell? ⟨w.heap.size, 0, none⟩ = some (.int .i64 0) := (hgr5.cell_far _ (by simp; try omega) (fun e => hv2 e.symm)).trans (by go_simp)
            have D1 : w5.cell? ⟨w.heap.size, 1, none⟩ = some (.slice none 0 0) := (hgr5.cell_far _ (by simp; try omega) (fun e => hv2 e.symm)).trans (by go_simp)
            have Df : ∀ o, w5.frozen? ⟨w.heap.size, o, none⟩ = false := fun o => (hgr5.frozen_far _ (by simp; try omega) (fun e => hv2 e.symm)).trans (by go_simp)
            have hbel5 : Below w.heap.size w w5 := (hbw2.trans (hb24.mono (by omega))).grown hgr5 (by simp; omega) (fun k' hk' => by have := (hol _ hk').1; omega)
            obtain ⟨a5, c5, hv5⟩ := hB5.shape
            have hv5' : v5 = .slice a5 (cs.length + 1) c5 := by rw [hv5]; simp
            clear hv5
            subst hv5'
            have m1 : w.heap.size + 1 < w5.heap.size := by omega
            have m2 : w.heap.size < w5.heap.size := by omega
            have hB6 : BagOwn (w5.setCell ⟨w.heap.size + 1, 1, none⟩ (.slice a5 (cs.length + 1) c5)) (w.heap.size + 1 + 1) (.slice a5 (cs.length + 1) c5) (cs ++ [⟨row, rn⟩]) (us ++ [.slice au row.length cu]) (G ++ [g]) := hB5.keep (by simp) fun b hb1 _ => Below.heap_setCell _ _ _ _ (by show b ≠ w.heap.size + 1; omega)
            have hbel6 : Below w.heap.size w (w5.setCell ⟨w.heap.size + 1, 1, none⟩ (.slice a5 (cs.length + 1) c5)) := hbel5.setCell (by show w.heap.size ≤ w.heap.size + 1; omega) _
            clear hown5 hgr5 hB4 hR4 hO4 hB5 hB hRF hOg hat5 hol hGl q0 q1 qf u0 u1 uf hb24 hb4 hnew
            go_wp2_with fail
            refine ⟨⟨n, e, cs ++ [⟨row, rn⟩], .slice a5 (cs.length + 1) c5, us ++ [.slice au row.length cu], G ++ [g], rfl, hes, by omega, by simp; omega, by rw [HR.out, HS.out, HROW.out], ?_, by go_simp, by go_simp, fun o => by go_simp, by go_simp, by go_simp, fun o => by go_simp, hB6, hbel6, by simp; omega⟩, by simp [intOf]; omega⟩
            intro z hz
            rcases List.mem_append.1 hz with hz | hz
            · exact hcw z hz
            · rcases List.mem_singleton.1 hz with rfl
              rw [HROW.out] at hrw
              exact hrw
        · have HN : Hid (ansB s = none) := by
            show ansB s = none
            rw [hA]; unfold resI
            rw [HR.out, runI, if_pos ⟨hltI, h400⟩, if_pos (.inl hk)]
          have hno := getCounted_no s i (bAt s 0) wr hs hk
          go_wp2_with fail
          refine Calls.mono hno ?_
          rintro e w2 ⟨rfl, hb2⟩
          have hzw := hb2.size
          have hfz := (bcell hb2).2
          have hcz := (bcell hb2).1
          have u0 : w2.cell? ⟨w.heap.size, 0, none⟩ = some (.int .i64 0) := (hcz _ _ (by omega)).trans r0
          have u1 : w2.cell? ⟨w.heap.size, 1, none⟩ = some (.slice none 0 0) := (hcz _ _ (by omega)).trans r1
          have uf : ∀ o, w2.frozen? ⟨w.heap.size, o, none⟩ = false := fun o => (hfz _ _ (by omega)).trans (rf o)
          have hbw2 : Below w.heap.size w w2 := hb.trans (hb2.mono hb.size)
          have n3 : w.heap.size < w2.heap.size := by omega
          have n4 : w.heap.size < w2.heap.size + 1 := by omega
          clear hfz hcz hB
          go_wp2_with fail
          refine bodyPost_ret (v := .tuple #[.agg #[.int .i64 0, .slice none 0 0], .bool false]) (by simp [results, Tryz.results8, go_sem, *]) rfl ⟨⟨_, [], [], by rw [(ans_none HN.out).1, (ans_none HN.out).2.2], by rw [(ans_none HN.out).2.1]; exact BagOwn.nil _ _⟩, by repeat (first | (with_reducible exact Below.refl _ _) | (with_reducible refine Below.drew ?_) | (with_reducible refine Below.alloc ?_ ?hh _; case hh => first | (simp; done) | (simp; omega) | omega) | (with_reducible refine Below.setCell ?_ ?hh _; case hh => first | (simp; done) | (simp; omega) | omega) | refine bstep (by assumption) (by first | (simp; done) | (simp; omega) | omega) ?_)⟩
      · have h400I : decide ((cs.length : Int) ≤ 400) = false := by simp; omega
        have HE : Hid (ansB s = if okBag (bAt s 0) cs = true then some cs else none) := by
          show ansB s = _
          rw [hA]; unfold resI
          rw [HR.out, runI_stop _ _ _ _ _ (by omega)]
        obtain ⟨F, hRs, hOs⟩ := hB.rowsF
        go_wp2_with fail
        refine Calls.mono (implBagOk_any (bAt s 0) (.slice ay cs.length cy) cs wr hcw hRs.is) ?_
        rintro e w2 ⟨rfl, hb2⟩
        have hzw := hb2.size
        have hfz := (bcell hb2).2
        have hcz := (bcell hb2).1
        have u0 : w2.cell? ⟨w.heap.size, 0, none⟩ = some (.int .i64 0) := (hcz _ _ (by omega)).trans r0
        have u1 : w2.cell? ⟨w.heap.size, 1, none⟩ = some (.slice none 0 0) := (hcz _ _ (by omega)).trans r1
        have uf : ∀ o, w2.frozen? ⟨w.heap.size, o, none⟩ = false := fun o => (hfz _ _ (by omega)).trans (rf o)
        have q0 : w2.cell? ⟨w.heap.size + 1, 0, none⟩ = some (.int .i64 (bAt s 0)) := (hcz _ _ (by omega)).trans p0
        have q1 : w2.cell? ⟨w.heap.size + 1, 1, none⟩ = some (.slice ay cs.length cy) := (hcz _ _ (by omega)).trans p1
        have hbw2 : Below w.heap.size w w2 := hb.trans (hb2.mono hb.size)
        have n3 : w.heap.size < w2.heap.size := by omega
        have n5 : w.heap.size + 1 < w2.heap.size := by omega
        have hB2 := hB.below hb2
        clear hfz hcz p0 p1 pf r0 r1 rf hB hRs hOs
        by_cases hok : okBag (bAt s 0) cs = true
        · have HN : Hid (ansB s = some cs) := by show ansB s = some cs; rw [HE.out, if_pos hok]
          go_wp2_with fail
          refine bodyPost_ret (v := .tuple #[.agg #[.int .i64 (bAt s 0), .slice ay cs.length cy], .bool true]) (by simp [results, Tryz.results8, go_sem, *]) rfl ⟨⟨_, us, G, by rw [(ans_some HN.out).1, (ans_some HN.out).2.2], ?_⟩, ?_⟩
          · rw [(ans_some HN.out).2.1]
            refine BagOwn.weak (N := w.heap.size + 1 + 1) (hB2.keep (by simp) fun b hb1 _ => ?_) (by omega)
            repeat rw [Below.heap_setCell _ _ _ _ (by show b ≠ w.heap.size; omega)]
          · repeat (first | (with_reducible exact hbw2) | (with_reducible refine Below.setCell ?_ ?hh _; case hh => (first | (simp; done) | (simp; omega))))
        · have HN : Hid (ansB s = none) := by show ansB s = none; rw [HE.out, if_neg hok]
          replace hok : okBag (bAt s 0) cs = false := by simpa using hok
          clear hB2
          go_wp2_with fail
          refine bodyPost_ret (v := .tuple #[.agg #[.int .i64 0, .slice none 0 0], .bool false]) (by simp [results, Tryz.results8, go_sem, *]) rfl ⟨⟨_, [], [], by rw [(ans_none HN.out).1, (ans_none HN.out).2.2], by rw [(ans_none HN.out).2.1]; exact BagOwn.nil _ _⟩, ?_⟩
          repeat (first | (with_reducible exact hbw2) | (with_reducible refine Below.setCell ?_ ?hh _; case hh => (first | (simp; done) | (simp; omega))))
    · have hltI : decide ((i : Int) < s.size) = false := by simp; omega
      have HE : Hid (ansB s = if okBag (bAt s 0) cs = true then some cs else none) := by
        show ansB s = _
        rw [hA]; unfold resI
        rw [HR.out, runI_stop _ _ _ _ _ (by omega)]
      obtain ⟨F, hRs, hOs⟩ := hB.rowsF
      go_wp2_with fail
      refine Calls.mono (implBagOk_any (bAt s 0) (.slice ay cs.length cy) cs wr hcw hRs.is) ?_
      rintro e w2 ⟨rfl, hb2⟩
      have hzw := hb2.size
      have hfz := (bcell hb2).2
      have hcz := (bcell hb2).1
      have u0 : w2.cell? ⟨w.heap.size, 0, none⟩ = some (.int .i64 0) := (hcz _ _ (by omega)).trans r0
      have u1 : w2.cell? ⟨w.heap.size, 1, none⟩ = some (.slice none 0 0) := (hcz _ _ (by omega)).trans r1
      have uf : ∀ o, w2.frozen? ⟨w.heap.size, o, none⟩ = false := fun o => (hfz _ _ (by omega)).trans (rf o)
      have q0 : w2.cell? ⟨w.heap.size + 1, 0, none⟩ = some (.int .i64 (bAt s 0)) := (hcz _ _ (by omega)).trans p0
      have q1 : w2.cell? ⟨w.heap.size + 1, 1, none⟩ = some (.slice ay cs.length cy) := (hcz _ _ (by omega)).trans p1
      have hbw2 : Below w.heap.size w w2 := hb.trans (hb2.mono hb.size)
      have n3 : w.heap.size < w2.heap.size := by omega
      have n5 : w.heap.size + 1 < w2.heap.size := by omega
      have hB2 := hB.below hb2
      clear hfz hcz p0 p1 pf r0 r1 rf hB hRs hOs
      by_cases hok : okBag (bAt s 0) cs = true
      · have HN : Hid (ansB s = some cs) := by show ansB s = some cs; rw [HE.out, if_pos hok]
        go_wp2_with fail
        refine bodyPost_ret (v := .tuple #[.agg #[.int .i64 (bAt s 0), .slice ay cs.length cy], .bool true]) (by simp [results, Tryz.results8, go_sem, *]) rfl ⟨⟨_, us, G, by rw [(ans_some HN.out).1, (ans_some HN.out).2.2], ?_⟩, ?_⟩
        · rw [(ans_some HN.out).2.1]
          refine BagOwn.weak (N := w.heap.size + 1 + 1) (hB2.keep (by simp) fun b hb1 _ => ?_) (by omega)
          repeat rw [Below.heap_setCell _ _ _ _ (by show b ≠ w.heap.size; omega)]
        · repeat (first | (with_reducible exact hbw2) | (with_reducible refine Below.setCell ?_ ?hh _; case hh => (first | (simp; done) | (simp; omega))))
      · have HN : Hid (ansB s = none) := by show ansB s = none; rw [HE.out, if_neg hok]
        replace hok : okBag (bAt s 0) cs = false := by simpa using hok
        clear hB2
        go_wp2_with fail
        refine bodyPost_ret (v := .tuple #[.agg #[.int .i64 0, .slice none 0 0], .bool false]) (by simp [results, Tryz.results8, go_sem, *]) rfl ⟨⟨_, [], [], by rw [(ans_none HN.out).1, (ans_none HN.out).2.2], by rw [(ans_none HN.out).2.1]; exact BagOwn.nil _ _⟩, ?_⟩
        repeat (first | (with_reducible exact hbw2) | (with_reducible refine Below.setCell ?_ ?hh _; case hh => (first | (simp; done) | (simp; omega))))
end Go.Proofs.YtiaafgmjigbjlaaGreatDoor
/- Own text. The bytes of a number make it again. -/
namespace Go.Proofs.YtiaafgmjigbjlaaGreatDoor
open Go.RowKit
set_option linter.unusedVariables false
set_option linter.unusedSimpArgs false
/-- the bytes of a number make it again. -/
theorem num_back (n : Int) (h0 : -9223372036854775808 ≤ n) (h1 : n ≤ 9223372036854775807) : wrap64 (be (((List.range 8).map (numB n)).map (fun n => UInt8.ofNat n.toNat))) = n := by
  have e : (List.range 8).map (numB n) = [numB n 0, numB n 1, numB n 2, numB n 3, numB n 4, numB n 5, numB n 6, numB n 7] := rfl
  have hb : ∀ x : Int, 0 ≤ x → x < 256 → ((UInt8.ofNat x.toNat).toNat : Int) = x := by
    intro x h0 h1
    rw [UInt8.toNat_ofNat']
    omega
  have hu : 0 ≤ IntKind.u64.wrap n ∧ IntKind.u64.wrap n < 18446744073709551616 ∧ (IntKind.u64.wrap n = n ∨ IntKind.u64.wrap n = n + 18446744073709551616) := by rw [IntKind.wrap_u64]; omega
  rw [e]
  simp only [List.map_cons, List.map_nil]
  rw [be8]
  simp only [numB]
  generalize IntKind.u64.wrap n = u at hu ⊢
  rw [hb _ (by omega) (by omega), hb _ (by omega) (by omega), hb _ (by omega) (by omega), hb _ (by omega) (by omega), hb _ (by omega) (by omega), hb _ (by omega) (by omega), hb _ (by omega) (by omega), hb _ (by omega) (by omega)]
  have hs : ((((((((u / 2 ^ (8 * (7 - 0)) % 256) * 256 + (u / 2 ^ (8 * (7 - 1)) % 256)) * 256 + (u / 2 ^ (8 * (7 - 2)) % 256)) * 256 + (u / 2 ^ (8 * (7 - 3)) % 256)) * 256 + (u / 2 ^ (8 * (7 - 4)) % 256)) * 256 + (u / 2 ^ (8 * (7 - 5)) % 256)) * 256 + (u / 2 ^ (8 * (7 - 6)) % 256)) * 256 + (u / 2 ^ (8 * (7 - 7)) % 256)) = u := by
    simp only [show (8 * (7 - 0) : Nat) = 56 from rfl, show (8 * (7 - 1) : Nat) = 48 from rfl, show (8 * (7 - 2) : Nat) = 40 from rfl, show (8 * (7 - 3) : Nat) = 32 from rfl, show (8 * (7 - 4) : Nat) = 24 from rfl, show (8 * (7 - 5) : Nat) = 16 from rfl, show (8 * (7 - 6) : Nat) = 8 from rfl, show (8 * (7 - 7) : Nat) = 0 from rfl]
    omega
  rw [hs]
  unfold wrap64
  omega
theorem data_app (a b : ByteArray) : (a ++ b).data.toList = a.data.toList ++ b.data.toList := by rw [ByteArray.data_append, Array.toList_append]
end Go.Proofs.YtiaafgmjigbjlaaGreatDoor
/- Own text. What PutBag wrote GetBag reads: pure. -/
namespace Go.Proofs.YtiaafgmjigbjlaaGreatDoor
open Go.RowKit
set_option linter.unusedVariables false
set_option linter.unusedSimpArgs false
theorem at_list (s : ByteArray) (a j : Nat) : bAt s (a + j) = ((s.data.toList.drop a).getD j 0).toNat := by
  unfold bAt
  rw [List.getD_eq_getElem?_getD, List.getD_eq_getElem?_getD, List.getElem?_drop]
theorem size_list {s : ByteArray} {a : Nat} {l : List UInt8} (h : s.data.toList.drop a = l) (hl : 0 < l.length) : a + l.length = s.size := by
  have e := congrArg List.length h
  rw [List.length_drop] at e
  have : s.data.toList.length = s.size := rfl
  omega
theorem drop_more {s : ByteArray} {a : Nat} {l r : List UInt8} (h : s.data.toList.drop a = l ++ r) : s.data.toList.drop (a + l.length) = r := by
  rw [← List.drop_drop, h, List.drop_left']
  rfl
/-- what was written is read, wherever it stands. -/
theorem val_at (s : ByteArray) (a : Nat) (x : V3) (rest : List UInt8) (h0 : -9223372036854775808 ≤ x.n) (h1 : x.n ≤ 9223372036854775807) (hok : okB x.k x.n x.s = true) (hd : s.data.toList.drop a = vB x ++ rest) :
    getT s a = (x.k, x.n, x.s, (a : Int) + ((vB x).length : Int)) := by
  obtain ⟨k, n, t⟩ := x
  dsimp only at *
  unfold vB at *
  dsimp only at *
  by_cases k0 : k = 0
  · subst k0
    have h := hok
    rw [okB_0] at h
    simp at h
    obtain ⟨rfl, h⟩ := h
    obtain rfl := nil_of t h
    rw [putS_0 _ _ hok, strOfNums_data] at hd ⊢
    have hz := size_list hd (by simp)
    simp at hz
    rw [getT_in s a (by omega), getN_0 _ _ (by have := at_list s a 0; rw [hd] at this; simpa using this)]
    rfl
  by_cases k1 : k = 1
  · subst k1
    have h := hok
    rw [okB_1] at h
    simp at h
    obtain rfl := nil_of t h
    rw [putS_1 _ _ hok, strOfNums_data] at hd ⊢
    have hl : (List.map (fun n => UInt8.ofNat n.toNat) (numL n 8)).length = 9 := by rw [List.length_map, numL_len]
    have hz := size_list hd (by rw [List.length_append]; omega)
    rw [List.length_append, hl] at hz
    rw [getT_in s a (by omega), getN_1 _ _ (by have e := at_list s a 0; rw [hd] at e; exact e.trans rfl) (by omega), hl]
    have : numAt s (a + 1) = n := by
      unfold numAt
      rw [← List.drop_drop, hd]
      have e : (List.drop 1 (List.map (fun n => UInt8.ofNat n.toNat) (numL n 8) ++ rest)).take 8 = ((List.range 8).map (numB n)).map (fun n => UInt8.ofNat n.toNat) := rfl
      rw [e]
      exact num_back n h0 h1
    rw [this]
    rfl
  by_cases k2 : k = 2
  · subst k2
    have h := hok
    rw [okB_2] at h
    simp at h
    obtain ⟨hn, h⟩ := h
    obtain rfl := nil_of t h
    rw [putS_2 _ _ hok, strOfNums_data] at hd ⊢
    have hz := size_list hd (by simp)
    simp at hz
    have hb : bAt s (a + 1) = n.toNat := by
      have := at_list s a 1
      rw [hd] at this
      rw [this]
      show (UInt8.ofNat n.toNat).toNat = n.toNat
      rw [UInt8.toNat_ofNat']; omega
    rw [getT_in s a (by omega), getN_2 _ _ (by have := at_list s a 0; rw [hd] at this; simpa using this) (by omega) (by rw [hb]; omega), hb]
    rw [show ((n.toNat : Nat) : Int) = n by omega]
    rfl
  by_cases k3 : k = 3
  · subst k3
    have h := hok
    rw [okB_3] at h
    simp at h
    obtain ⟨rfl, hs⟩ := h
    have hv : (putS 3 0 t).data.toList = 3 :: UInt8.ofNat t.size :: t.data.toList := by rw [putS_3 _ _ hok, data_app, strOfNums_data]; rfl
    rw [hv] at hd ⊢
    have htl : t.data.toList.length = t.size := rfl
    have hz := size_list hd (by simp)
    simp at hz
    have hb : bAt s (a + 1) = t.size := by
      have := at_list s a 1
      rw [hd] at this
      rw [this]
      show (UInt8.ofNat t.size).toNat = t.size
      rw [UInt8.toNat_ofNat']; omega
    rw [getT_in s a (by omega), getN_3 _ _ (by have := at_list s a 0; rw [hd] at this; simpa using this) (by omega) (by rw [hb]; omega) (by rw [hb]; exact hs), hb]
    have he : s.extract (a + 2) (a + 2 + t.size) = t := by
      apply ByteArray.ext
      apply Array.toList_inj.1
      rw [extract_list, ← List.drop_drop, hd]
      show List.take (a + 2 + t.size - (a + 2)) (t.data.toList ++ rest) = t.data.toList
      rw [show a + 2 + t.size - (a + 2) = t.data.toList.length by omega, List.take_left']
      rfl
    rw [he]
    simp
    omega
  · exfalso
    rw [okB_x k n t k0 k1 k2 k3] at hok
    cases hok
def NumOk (x : V3) : Prop := -9223372036854775808 ≤ x.n ∧ x.n ≤ 9223372036854775807
theorem vals_at (s : ByteArray) : ∀ (vs : List V3) (a : Nat) (rest : List UInt8), (∀ x ∈ vs, NumOk x ∧ okW x = true) → s.data.toList.drop a = rowU vs ++ rest →
    valsV s vs.length a = vs ∧ valsJ s vs.length a = (a : Int) + ((rowU vs).length : Int)
  | [], a, rest, _, _ => ⟨rfl, by simp [valsJ, rowU]⟩
  | x :: vs, a, rest, ho, hd => by
    have e : rowU (x :: vs) = vB x ++ rowU vs := by unfold rowU vB; rw [List.flatMap_cons]
    rw [e, List.append_assoc] at hd
    have hx := ho x (List.mem_cons_self ..)
    have hg := val_at s a x _ hx.1.1 hx.1.2 hx.2 hd
    have hV : tV s a = x := by unfold tV; rw [hg]
    have hJ : tJ s a = ((a + (vB x).length : Nat) : Int) := by unfold tJ; rw [hg]; simp
    have ih := vals_at s vs (a + (vB x).length) rest (fun y hy => ho y (List.mem_cons_of_mem _ hy)) (drop_more hd)
    refine ⟨?_, ?_⟩
    · show tV s a :: valsV s vs.length (tJ s a) = x :: vs
      rw [hV, hJ, ih.1]
    · show valsJ s vs.length (tJ s a) = _
      rw [hJ, ih.2, e, List.length_append]
      omega
/-- the rows that were written are read. -/
theorem run_at (s : ByteArray) (W : Nat) : ∀ (cs : List C2) (n a : Nat) (acc : List C2), cs.length < n → acc.length + cs.length ≤ 400 → (∀ c ∈ cs, c.r.length = W ∧ (-9223372036854775808 ≤ c.n ∧ c.n ≤ 9223372036854775807) ∧ ∀ x ∈ c.r, NumOk x ∧ okW x = true) → s.data.toList.drop a = csU cs →
    runI s W n a acc = some (acc ++ cs)
  | [], n, a, acc, hn, hl, ho, hd => by
    obtain ⟨n, rfl⟩ : ∃ m, n = m + 1 := ⟨n - 1, by simp at hn; omega⟩
    have hz : s.size ≤ a := by
      have e := congrArg List.length hd
      rw [List.length_drop] at e
      have : s.data.toList.length = s.size := rfl
      simp [csU] at e
      omega
    rw [runI, if_neg (by omega)]
    simp
  | c :: cs, n, a, acc, hn, hl, ho, hd => by
    obtain ⟨n, rfl⟩ : ∃ m, n = m + 1 := ⟨n - 1, by simp at hn; omega⟩
    obtain ⟨hW, hnn, hvs⟩ := ho c (List.mem_cons_self ..)
    have hok : okB 1 c.n ⟨#[]⟩ = true := by rw [okB_1]; simp
    have hv : vB ⟨1, c.n, ⟨#[]⟩⟩ = (numL c.n 8).map (fun n => UInt8.ofNat n.toNat) := by unfold vB; rw [putS_1 _ _ hok, strOfNums_data]
    have hlen : (vB ⟨1, c.n, ⟨#[]⟩⟩).length = 9 := by rw [hv, List.length_map, numL_len]
    rw [csU_cons, ← hv, List.append_assoc] at hd
    have hz := size_list hd (by rw [List.length_append]; omega)
    have hg := val_at s a ⟨1, c.n, ⟨#[]⟩⟩ _ hnn.1 hnn.2 hok hd
    have hV : tV s a = ⟨1, c.n, ⟨#[]⟩⟩ := by unfold tV; rw [hg]
    have hJ : tJ s a = ((a + (vB ⟨1, c.n, ⟨#[]⟩⟩).length : Nat) : Int) := by unfold tJ; rw [hg]; simp
    have hd2 := drop_more hd
    have hr := vals_at s c.r _ _ hvs hd2
    rw [hW] at hr
    have hE : endS s W a = ((a + (vB ⟨1, c.n, ⟨#[]⟩⟩).length + (rowU c.r).length : Nat) : Int) := by unfold endS; rw [hJ, hr.2]; simp
    have hS : rowS s W a = c := by
      unfold rowS
      rw [hJ, hr.1, hV]
    rw [List.length_append] at hz
    have h1 : acc.length + (cs.length + 1) ≤ 400 := hl
    have h2 : cs.length + 1 < n + 1 := hn
    rw [runI, if_pos ⟨by omega, by omega⟩, hV, hE, hS, if_neg (by simp only []; omega)]
    rw [run_at s W cs n _ _ (by omega) (by rw [List.length_append]; simp; omega) (fun y hy => ho y (List.mem_cons_of_mem _ hy)) (drop_more hd2)]
    simp
theorem okCs_row {W : Int} : ∀ {cs : List C2} {p : Option C2}, okCs W p cs = true → ∀ c ∈ cs, okRow c.r W = true
  | [], _, _, c, hc => by simp at hc
  | x :: xs, p, h, c, hc => by
    simp only [okCs, Bool.and_eq_true] at h
    rcases List.mem_cons.1 hc with rfl | hc
    · exact h.1.1.1
    · exact okCs_row h.2 c hc
theorem csU_pos : ∀ (cs : List C2), cs.length ≤ (csU cs).length
  | [] => by simp
  | c :: cs => by
    rw [csU_cons, List.length_append, List.length_append, List.length_map, numL_len]
    have := csU_pos cs
    simp
    omega
/-- a bag comes back from its bytes. -/
theorem bag_back {W : Int} {cs : List C2} (hok : okBag W cs = true) (hn : ∀ c ∈ cs, (-9223372036854775808 ≤ c.n ∧ c.n ≤ 9223372036854775807) ∧ ∀ x ∈ c.r, NumOk x) :
    0 < (putB W cs).size ∧ aW (putB W cs) = W ∧ aC (putB W cs) = cs ∧ aB (putB W cs) = true := by
  obtain ⟨hW0, hW1, hl, _⟩ := okBag_facts hok
  have ho : okCs W none cs = true := by
    unfold okBag at hok
    simp only [Bool.and_eq_true] at hok
    exact hok.2
  have hdat : (putB W cs).data.toList = UInt8.ofNat W.toNat :: csU cs := by
    unfold putB
    rw [if_pos hok, strOfNums_data]
    unfold bagN
    rw [List.map_cons, csN_back]
  have hsz : (putB W cs).size = 1 + (csU cs).length := by
    have : (putB W cs).data.toList.length = (putB W cs).size := rfl
    rw [← this, hdat, List.length_cons]; omega
  generalize putB W cs = s at hdat hsz ⊢
  have hb0 : bAt s 0 = W.toNat := by
    unfold bAt
    rw [hdat]
    show (UInt8.ofNat W.toNat).toNat = W.toNat
    rw [UInt8.toNat_ofNat']; omega
  have hd1 : s.data.toList.drop 1 = csU cs := by rw [hdat]; rfl
  have hcl := csU_pos cs
  have hrun : runI s W.toNat (s.size + 1) (1 : Nat) [] = some ([] ++ cs) := run_at s W.toNat cs (s.size + 1) 1 [] (by omega) (by simpa using hl) (fun c hc => by
    have hr := okCs_row ho c hc
    unfold okRow at hr
    simp only [Bool.and_eq_true, decide_eq_true_eq, List.all_eq_true] at hr
    exact ⟨by omega, (hn c hc).1, fun x hx => ⟨(hn c hc).2 x hx, hr.2 x hx⟩⟩) hd1
  have hans : ansB s = some cs := by
    unfold ansB resI
    rw [if_neg (by omega), hb0]
    have h1 : runI s W.toNat (s.size + 1) 1 [] = some cs := hrun
    rw [h1]
    dsimp only
    rw [show ((W.toNat : Nat) : Int) = W by omega, if_pos hok]
  obtain ⟨e1, e2, e3⟩ := ans_some hans
  exact ⟨by omega, by rw [e1, hb0]; omega, e2, e3⟩
/-- what is read is what its bytes are of. -/
theorem bag_again {s : ByteArray} (h : aB s = true) : putB (aW s) (aC s) = s := by
  cases e : ansB s with
  | none => rw [(ans_none e).2.2] at h; cases h
  | some cs =>
    obtain ⟨e1, e2, _⟩ := ans_some e
    rw [e1, e2]
    unfold ansB at e
    by_cases hz : s.size = 0
    · rw [if_pos hz] at e; cases e
    rw [if_neg hz, ← res_same s (by omega)] at e
    unfold resS at e
    split at e
    · split at e
      · cases e
      · split at e
        · cases e; assumption
        · cases e
    · cases e
theorem putB_none {W : Int} {cs : List C2} (h : okBag W cs = false) : putB W cs = ⟨#[]⟩ := by unfold putB; rw [h]; rfl
theorem putB_le {W : Int} {cs : List C2} : (putB W cs).size ≤ 1233 * cs.length + 1 := by
  by_cases hok : okBag W cs = true
  · unfold putB
    rw [if_pos hok, nums_size]
    obtain ⟨_, _, hl, hr⟩ := okBag_facts hok
    have := csN_len hr
    unfold bagN
    rw [List.length_cons]
    omega
  · rw [putB_none (by simpa using hok)]
    show 0 ≤ _
    omega
end Go.Proofs.YtiaafgmjigbjlaaGreatDoor
/- Own text. The contract of spec.DrawGetBag: some text, of some size. -/
namespace Go.Proofs.YtiaafgmjigbjlaaGreatDoor
open Go.RowKit Go.Deep Go.ChangeShapes Go.WideShapes
set_option linter.unusedVariables false
theorem l01Below_all (n : Int) (B : Nat) (v : Value) (l : Nat) (w : World) (h : Cur w B v l) (h1 : 1 ≤ n) (h2 : n ≤ 1000000000) :
    Calls Tryz.prog 20 #[.pointer (some ⟨B, 0, none⟩), .int .i64 n] w fun e w' => (∃ x : Int, e = .returned (.int .i64 x) ∧ 0 ≤ x ∧ x < n) ∧ Drew B v l w w' := by
  by_cases hn : n ≤ 256
  · exact l01Below_any n B v l w h h1 hn
  · exact l01Below_big n B v l w h (by omega) h2
theorem bgj_wf {W : Int} {cs : List C2} (h : BgJ W cs) : CsWf cs := fun c hc => by
  refine ⟨fun y hy => ?_, wf_64 (by have := h.num c hc; omega) (by have := h.num c hc; omega)⟩
  obtain ⟨k0, k1, n0, n1, hs⟩ := (h.row c hc).2 y hy
  exact ⟨wf_64 (by omega) (by omega), wf_64 n0 n1, by unfold maxLen; omega⟩
set_option maxHeartbeats 4000000 in
set_option maxRecDepth 100000 in
theorem drawGetBag_any (v : Value) (l : Nat) (w : World) (h : BytesB w w.heap.size v l) :
    Calls Tryz.prog 7 #[v] w fun e w' => (∃ s : ByteArray, e = .returned (.string s) ∧ s.size ≤ 1048576) ∧ Below w.heap.size w w' := by
  go_enter Tryz.func7, Tryz.ntmps7
  go_wp2_with fail
  refine (l01New_at w.heap.size v l _ rfl h).mono ?_
  rintro e w1 ⟨rfl, hc1, hb1⟩
  go_wp2_with fail
  refine (l02Any_any _ v l w1 hc1).mono ?_
  rintro e w2 ⟨⟨W, u, cs, us, G, rfl, hJ, hB⟩, hd2⟩
  obtain ⟨F, hF, _⟩ := hB.rowsF
  go_wp2_with fail
  refine (specPutBag_any W u cs w2 (bgj_wf hJ) hF.is).mono ?_
  rintro e w3 ⟨rfl, hb3⟩
  have hd3 := hd2.below hb3
  have hsz : (putB W cs).size ≤ 1000000 := by
    have h1 := putB_le (W := W) (cs := cs)
    have h2 := hJ.len
    omega
  have hB0 := fun w2 => Drew.new (w2 := w2) (v := v) (l := l) (Below.refl w.heap.size w) hb1 rfl hc1.lt
  have hlt1 := hc1.lt
  clear hF hB hJ hd2 hb3 hb1 hc1
  generalize putB W cs = s at *
  have hw : wrap64 ((s.size : Int) + 1) = (s.size : Int) + 1 := by unfold wrap64; omega
  go_wp2_with fail
  refine (l01Below_all ((s.size : Int) + 1) _ v l w3 hd3.cur (by omega) (by omega)).mono ?_
  rintro e w4 ⟨⟨y, rfl, y0, y1⟩, hd4⟩
  obtain ⟨i, rfl⟩ : ∃ i : Nat, y = i := ⟨y.toNat, by omega⟩
  have hi : (i : Int) ≤ s.size := by omega
  have hin : i ≤ s.size := by omega
  have hD4 := hd3.trans hd4
  clear hd3 hd4 y0 y1 hw
  go_wp2_with fail
  refine (l01Below_any 6 _ v l _ hD4.cur (by omega) (by omega)).mono ?_
  rintro e w5 ⟨⟨q, rfl, q0, q1⟩, hd5⟩
  have hD5 := hD4.trans hd5
  have hlt5 := hD5.cur.lt
  clear hD4 hd5
  by_cases e0 : q = 0
  · subst e0
    have hB := hB0 w5 hD5
    clear hB0 hD5
    go_wp2
    go_returns
    exact ⟨⟨_, rfl, by rw [ByteArray.size_extract]; omega⟩, hB⟩
  have b0 : (q == 0) = false := by simp [e0]
  by_cases e1 : q = 1
  · subst e1
    clear b0 e0 q0 q1
    have hcells : ∀ j, j < 3 → ∃ x : ByteArray, (w5.alloc (.cells #[.string ⟨#[0]⟩, .string ⟨#[1]⟩, .string ⟨#[3]⟩] 9)).drew.cell? ⟨w5.heap.size, j, none⟩ = some (.string x) ∧ x.size ≤ 1 := fun j hj => by
      rw [World.cell?_drew, cells_at]
      match j, hj with
      | 0, _ => exact ⟨_, rfl, by decide⟩
      | 1, _ => exact ⟨_, rfl, by decide⟩
      | 2, _ => exact ⟨_, rfl, by decide⟩
    go_wp2_with fail
    go_region_with (first | (go_at_call 21; refine (l01Pick_any (fun x => x.size ≤ 1) w5.heap.size 3 3 w.heap.size v l _ (hD5.below (by repeat (first | (with_reducible exact Below.refl _ _) | (with_reducible refine Below.drew ?_) | (with_reducible refine Below.alloc ?_ ?hh _; case hh => first | (simp; done) | (simp; omega) | omega) | (with_reducible refine Below.setCell ?_ ?hh _; case hh => first | (simp; done) | (simp; omega) | omega) | refine bstep (by assumption) (by first | (simp; done) | (simp; omega) | omega) ?_))).cur (by omega) (by omega) (by omega) (by omega) (by simp) hcells).mono ?_; rintro e w6 ⟨⟨x, rfl, hx⟩, hd6⟩; have hB := hB0 w6 ((hD5.below (by repeat (first | (with_reducible exact Below.refl _ _) | (with_reducible refine Below.drew ?_) | (with_reducible refine Below.alloc ?_ ?hh _; case hh => first | (simp; done) | (simp; omega) | omega) | (with_reducible refine Below.setCell ?_ ?hh _; case hh => first | (simp; done) | (simp; omega) | omega) | refine bstep (by assumption) (by first | (simp; done) | (simp; omega) | omega) ?_))).trans hd6)))
    go_wp2
    go_returns
    refine ⟨⟨_, rfl, ?_⟩, hB⟩
    rw [ByteArray.size_append, ByteArray.size_append, ByteArray.size_extract, ByteArray.size_extract]
    omega
  have b1 : (q == 1) = false := by simp [e1]
  have hB := hB0 w5 hD5
  clear hB0 hD5
  go_wp2
  go_returns
  exact ⟨⟨_, rfl, by omega⟩, hB⟩
end Go.Proofs.YtiaafgmjigbjlaaGreatDoor
/- Own text. Two values, held against each other. -/
namespace Go.Proofs.YtiaafgmjigbjlaaGreatDoor
open Go.RowKit Go.Deep
set_option linter.unusedVariables false
theorem neV (k n k' n' : Int) (s s' : ByteArray) (w : World) : (binOp .neq 48 (.agg #[.int .i64 k, .int .i64 n, .string s]) (.agg #[.int .i64 k', .int .i64 n', .string s'])).run Tryz.prog w = .ok (.bool (!(k == k' && (n == n' && s.toList == s'.toList)))) w := by
  have h := eqV k n k' n' s s' w
  rw [run_eql_struct] at h
  rw [run_neq_struct]
  revert h
  cases (Op.equalIn 10000 48 (.agg #[.int .i64 k, .int .i64 n, .string s]) (.agg #[.int .i64 k', .int .i64 n', .string s'])).run Tryz.prog w <;> intro h <;> simp_all [Result.andThen]
/-- whether two values are the same. -/
def sameV (a b : V3) : Bool := a.k == b.k && (a.n == b.n && a.s.toList == b.s.toList)
end Go.Proofs.YtiaafgmjigbjlaaGreatDoor
/- Own text. Two rows, two bags that read the same are found the same. -/
namespace Go.Proofs.YtiaafgmjigbjlaaGreatDoor
open Go.RowKit
set_option linter.unusedVariables false
theorem neSame (k n : Int) (s : ByteArray) (w : World) : (binOp .neq 48 (.agg #[.int .i64 k, .int .i64 n, .string s]) (.agg #[.int .i64 k, .int .i64 n, .string s])).run Tryz.prog w = .ok (.bool false) w := by
  rw [neV]; simp
set_option maxHeartbeats 2000000 in
set_option maxRecDepth 100000 in
theorem sameRow_any (v u : Value) (vs : List V3) (w : World) (hr : RowIs w v vs) (hu : RowIs w u vs) :
    Calls Tryz.prog 26 #[v, u] w fun e w' => e = .returned (.bool true) ∧ Below w.heap.size w w' := by
  obtain ⟨a, c, b, o, rfl, hl, hc, ha⟩ := hr.pick
  obtain ⟨a', c', b', o', rfl, hl', hc', ha'⟩ := hu.pick
  unfold maxLen at hc hc'
  clear hr hu
  go_enter Tryz.func26, Tryz.ntmps26
  go_wp2
  go_loopw [5] (fun i wr => ∃ k : Nat, k ≤ vs.length ∧ i = .int .i64 k ∧ Below w.heap.size w wr) (fun i _ => vs.length - (intOf i).toNat)
  case atStart => exact ⟨0, Nat.zero_le _, rfl, by go_grown⟩
  case round =>
    obtain ⟨k, hk, rfl, hb⟩ := hrel
    by_cases hlt : k < vs.length
    · have hzb := hb.size
      obtain ⟨rfl, hblt, hL⟩ := ha k hlt
      obtain ⟨rfl, hblt', hL'⟩ := ha' k hlt
      obtain ⟨x, hx, c0, c1, c2, hbr⟩ := hL.at hblt hb hlt
      obtain ⟨x', hx', c0', c1', c2', hbr'⟩ := hL'.at hblt' hb hlt
      obtain rfl : x = x' := by rw [hx] at hx'; exact Option.some.inj hx'
      have q2 := neSame x.k x.n x.s
      clear ha ha' hL hL' hx hx'
      go_wp2_with fail
      go_quiet (fail)
      go_wp2
      go_roundw
      case rel => exact ⟨k + 1, hlt, by simp, ⟨hb.os, hb.tape, hb.output, hb.size, hb.block⟩⟩
      case measure => simp [intOf]; omega
    · go_wp2
      go_returns
      exact ⟨rfl, hb⟩
set_option maxHeartbeats 2000000 in
set_option maxRecDepth 100000 in
theorem sameBag_any (W : Int) (v u : Value) (cs : List C2) (w : World) (hr : RowsIs w v cs) (hu : RowsIs w u cs) :
    Calls Tryz.prog 11 #[.agg #[.int .i64 W, v], .agg #[.int .i64 W, u]] w fun e w' => e = .returned (.bool true) ∧ Below w.heap.size w w' := by
  obtain ⟨a, c, b, o, rfl, hl, hc, ha⟩ := hr.pick
  obtain ⟨a', c', b', o', rfl, hl', hc', ha'⟩ := hu.pick
  unfold maxLen at hc hc'
  clear hr hu
  go_enter Tryz.func11, Tryz.ntmps11
  go_wp2
  go_loopw [5] (fun i wr => ∃ k : Nat, k ≤ cs.length ∧ i = .int .i64 k ∧ Below w.heap.size w wr ∧ wr.cell? ⟨w.heap.size, 0, none⟩ = some (.int .i64 W) ∧ wr.cell? ⟨w.heap.size, 1, none⟩ = some (.slice a cs.length c) ∧ wr.cell? ⟨w.heap.size + 1, 0, none⟩ = some (.int .i64 W) ∧ wr.cell? ⟨w.heap.size + 1, 1, none⟩ = some (.slice a' cs.length c')) (fun i _ => cs.length - (intOf i).toNat)
  case atStart => exact ⟨0, Nat.zero_le _, rfl, by repeat (first | exact Below.refl _ _ | refine Below.drew ?_ | refine Below.alloc ?_ (by first | (simp; done) | (simp; omega) | omega) _ | refine Below.setCell ?_ (by first | (simp; done) | (simp; omega) | omega) _ | refine bstep (by assumption) (by first | (simp; done) | (simp; omega) | omega) ?_), by go_simp, by go_simp, by go_simp, by go_simp⟩
  case round =>
    obtain ⟨k, hk, rfl, hb, b0, b1, b2, b3⟩ := hrel
    by_cases hlt : k < cs.length
    · have hzb := hb.size
      obtain ⟨rfl, hblt, hL⟩ := ha k hlt
      obtain ⟨rfl, hblt', hL'⟩ := ha' k hlt
      obtain ⟨x, v, hx, c0, hR, c1, hbr⟩ := hL.at hblt hb hlt
      obtain ⟨x', u, hx', c0', hR', c1', hbr'⟩ := hL'.at hblt' hb hlt
      obtain rfl : x = x' := by rw [hx] at hx'; exact Option.some.inj hx'
      clear ha ha' hL hL' hx hx'
      go_wp2_with fail
      go_region_held3 (fun w' => w'.cell? ⟨w.heap.size, 1, none⟩ = some (.slice (some ⟨b, o, none⟩) cs.length c) ∧ w'.cell? ⟨w.heap.size + 1, 1, none⟩ = some (.slice (some ⟨b', o', none⟩) cs.length c') ∧ w'.cell? ⟨b, o + k * 2, none⟩ = some v ∧ w'.cell? ⟨b, o + k * 2 + 1, none⟩ = some (.int .i64 x.n) ∧ w'.cell? ⟨b', o' + k * 2, none⟩ = some u ∧ w'.cell? ⟨b', o' + k * 2 + 1, none⟩ = some (.int .i64 x.n)) (refine ⟨?_, ?_, ?_, ?_, ?_, ?_⟩ <;> first | (go_simp; done) | (exact cell_later (by assumption) (by go_simp))) (first | (go_at_call 26; refine (sameRow_any v u x.r _ (hR.below (by repeat (first | exact Below.refl _ _ | refine Below.drew ?_ | refine Below.alloc ?_ (by first | (simp; done) | (simp; omega) | omega) _ | refine Below.setCell ?_ (by first | (simp; done) | (simp; omega) | omega) _ | refine bstep (by assumption) (by first | (simp; done) | (simp; omega) | omega) ?_))) (hR'.below (by repeat (first | exact Below.refl _ _ | refine Below.drew ?_ | refine Below.alloc ?_ (by first | (simp; done) | (simp; omega) | omega) _ | refine Below.setCell ?_ (by first | (simp; done) | (simp; omega) | omega) _ | refine bstep (by assumption) (by first | (simp; done) | (simp; omega) | omega) ?_)))).mono ?_; rintro e w1 ⟨rfl, hb1⟩))
      go_wp2
      go_roundw
      case rel => exact ⟨k + 1, hlt, by simp, by repeat (first | exact Below.refl _ _ | refine Below.drew ?_ | refine Below.alloc ?_ (by first | (simp; done) | (simp; omega) | omega) _ | refine Below.setCell ?_ (by first | (simp; done) | (simp; omega) | omega) _ | refine bstep (by assumption) (by first | (simp; done) | (simp; omega) | omega) ?_), cell_later (by assumption) (by go_simp), cell_later (by assumption) (by go_simp), cell_later (by assumption) (by go_simp), cell_later (by assumption) (by go_simp)⟩
      case measure => simp [intOf]; omega
    · go_wp2
      go_returns
      exact ⟨rfl, hb⟩
end Go.Proofs.YtiaafgmjigbjlaaGreatDoor
/- Own text. What GetBag reads is well formed. -/
namespace Go.Proofs.YtiaafgmjigbjlaaGreatDoor
open Go.RowKit Go.Deep
set_option linter.unusedVariables false
theorem runI_wf (s : ByteArray) (W : Nat) : ∀ (n : Nat) (i : Int) (acc cs : List C2), CsWf acc → runI s W n i acc = some cs → CsWf cs
  | 0, i, acc, cs, ha, h => by cases h; exact ha
  | n + 1, i, acc, cs, ha, h => by
    rw [runI] at h
    split at h
    · split at h
      · cases h
      · refine runI_wf s W n _ _ cs ?_ h
        intro y hy
        rcases List.mem_append.1 hy with hy | hy
        · exact ha y hy
        · rcases List.mem_singleton.1 hy with rfl
          exact rowS_wf s W i
    · cases h; exact ha
theorem ans_wf (t : ByteArray) : CsWf (aC t) ∧ (Lit.int .i64 (aW t)).wf = true := by
  cases hA : ansB t with
  | none =>
    obtain ⟨e1, e2, _⟩ := ans_none hA
    rw [e1, e2]
    exact ⟨fun y hy => (by cases hy), wf_64 (by omega) (by omega)⟩
  | some cs =>
    obtain ⟨e1, e2, _⟩ := ans_some hA
    rw [e1, e2]
    have hl := bAt_lt t 0
    refine ⟨?_, wf_64 (by omega) (by omega)⟩
    unfold ansB at hA
    split at hA
    · cases hA
    · unfold resI at hA
      split at hA
      · cases hA
      · rename_i cs' hrun
        split at hA
        · cases hA
          exact runI_wf t _ _ _ _ _ (fun y hy => by cases hy) hrun
        · cases hA
end Go.Proofs.YtiaafgmjigbjlaaGreatDoor
/- Own text. A bag that is read: the contract of spec.GetBag. -/
namespace Go.Proofs.YtiaafgmjigbjlaaGreatDoor
open Go.RowKit Go.Deep
set_option linter.unusedVariables false
theorem valsJ_late (s : ByteArray) (j : Int) : ∀ (d q : Nat), valsJ s q j < 0 → valsJ s (q + d) j < 0
  | 0, _, h => h
  | d + 1, q, h => by rw [← Nat.add_assoc, valsJ_succ, tJ_neg s _ (valsJ_late s j d q h)]; decide
theorem run_stop (s : ByteArray) (W : Nat) (n : Nat) (i : Int) (cs : List C2) (h : ¬ (i < s.size ∧ cs.length ≤ 400)) : run s W n i cs = some cs := by
  cases n with
  | zero => rfl
  | succ n => rw [run, if_neg h]
set_option maxHeartbeats 4000000 in
set_option maxRecDepth 100000 in
theorem specGetBag_any (s : ByteArray) (w : World) (hs : s.size ≤ 1048576) :
    Calls Tryz.prog 9 #[.string s] w fun e w' => (∃ u us G, e = .returned (.tuple #[.agg #[.int .i64 (aW s), u], .bool (aB s)]) ∧ BagOwn w' w.heap.size u (aC s) us G) ∧ Below w.heap.size w w' := by
  obtain ⟨i0, hi0, hz0, hz1, hz2⟩ := info_parts Tryz.infoCnt
  obtain ⟨i1, hi1, hv0, hv1, hv2⟩ := info_parts Tryz.infoVal
  by_cases hz : s.size = 0
  · have hA := ans_none (s := s) (by unfold ansB; rw [if_pos hz])
    have hnil : s.toList = [] := by rw [ByteArray.toList_eq]; exact List.eq_nil_of_length_eq_zero (by simpa using hz)
    have hs0 : s = ⟨#[]⟩ := by
      apply ByteArray.ext
      exact Array.eq_empty_of_size_eq_zero hz
    rw [hA.1, hA.2.1, hA.2.2]
    clear hA
    subst hs0
    go_enter Tryz.func9, Tryz.ntmps9
    go_wp2_with fail
    refine bodyPost_ret (v := .tuple #[.agg #[.int .i64 0, .slice none 0 0], .bool false]) (by simp [results, Tryz.results9, go_sem, *]) rfl ⟨⟨_, [], [], rfl, BagOwn.nil _ _⟩, by repeat (first | (with_reducible exact Below.refl _ _) | (with_reducible refine Below.drew ?_) | (with_reducible refine Below.alloc ?_ ?hh _; case hh => first | (simp; done) | (simp; omega) | omega) | (with_reducible refine Below.setCell ?_ ?hh _; case hh => first | (simp; done) | (simp; omega) | omega) | refine bstep (by assumption) (by first | (simp; done) | (simp; omega) | omega) ?_)⟩
  have hpos : 0 < s.size := by omega
  have hposI : (0 : Int) < s.size := by omega
  have hne : s.toList.isEmpty = false := by
    rw [ByteArray.toList_eq]
    have : s.data.toList.length ≠ 0 := by simpa using hz
    cases h : s.data.toList with
    | nil => rw [h] at this; simp at this
    | cons a l => rfl
  have hW : bAt s 0 ≤ 255 := by have := bAt_lt s 0; omega
  have e64 : wrap64 (s[0].toNat : Int) = (bAt s 0 : Nat) := by rw [wrap64_byte, bAt_eq s 0 hpos]
  have hA : ansB s = resS s := by unfold ansB; rw [if_neg hz, res_same s hpos]
  by_cases h12 : bAt s 0 ≤ 12
  rotate_left
  · have h12I : (12 : Int) < (bAt s 0 : Nat) := by omega
    have HN : Hid (ansB s = none) := by
      show ansB s = none
      rw [hA]; unfold resS; rw [if_neg h12]
    clear hA h12
    go_enter Tryz.func9, Tryz.ntmps9
    go_wp2_with fail
    refine bodyPost_ret (v := .tuple #[.agg #[.int .i64 0, .slice none 0 0], .bool false]) (by simp [results, Tryz.results9, go_sem, *]) rfl ⟨⟨_, [], [], by rw [(ans_none HN.out).1, (ans_none HN.out).2.2], by rw [(ans_none HN.out).2.1]; exact BagOwn.nil _ _⟩, by repeat (first | (with_reducible exact Below.refl _ _) | (with_reducible refine Below.drew ?_) | (with_reducible refine Below.alloc ?_ ?hh _; case hh => first | (simp; done) | (simp; omega) | omega) | (with_reducible refine Below.setCell ?_ ?hh _; case hh => first | (simp; done) | (simp; omega) | omega) | refine bstep (by assumption) (by first | (simp; done) | (simp; omega) | omega) ?_)⟩
  have h12I : decide ((12 : Int) < (bAt s 0 : Nat)) = false := by simp; omega
  have HRS : Hid (ansB s = match run s (bAt s 0) (s.size + 1) 1 [] with | none => none | some cs => if putB (bAt s 0) cs = s then some cs else none) := by
    show ansB s = _
    rw [hA]; unfold resS; rw [if_pos h12]
    generalize run s (bAt s 0) (s.size + 1) 1 [] = r
    cases r <;> rfl
  clear hA
  go_enter Tryz.func9, Tryz.ntmps9
  go_wp2_with fail
  go_loopw [5] (fun at' wr => ∃ (n i : Nat) (cs : List C2) (y : Value) (us : List Value) (G : List (List Nat)), at' = .int .i64 i ∧ i ≤ s.size ∧ s.size + 1 ≤ n + i ∧ cs.length ≤ 401 ∧ run s (bAt s 0) (s.size + 1) 1 [] = run s (bAt s 0) n i cs ∧ CsWf cs ∧
      wr.cell? ⟨w.heap.size + 1, 0, none⟩ = some (.int .i64 (bAt s 0)) ∧ wr.cell? ⟨w.heap.size + 1, 1, none⟩ = some y ∧ (∀ o, wr.frozen? ⟨w.heap.size + 1, o, none⟩ = false) ∧
      wr.cell? ⟨w.heap.size, 0, none⟩ = some (.int .i64 0) ∧ wr.cell? ⟨w.heap.size, 1, none⟩ = some (.slice none 0 0) ∧ (∀ o, wr.frozen? ⟨w.heap.size, o, none⟩ = false) ∧
      BagOwn wr (w.heap.size + 1 + 1) y cs us G ∧ Below w.heap.size w wr ∧ w.heap.size + 1 + 1 ≤ wr.heap.size) (fun at' _ => s.size + 1 - (intOf at').toNat)
  case atStart =>
    refine ⟨s.size + 1, 1, [], .slice none 0 0, [], [], rfl, by omega, by omega, by simp, rfl, by simp [CsWf], by go_simp, by go_simp, fun o => by go_simp, by go_simp, by go_simp, fun o => by go_simp, BagOwn.nil _ _, by repeat (first | (with_reducible exact Below.refl _ _) | (with_reducible refine Below.drew ?_) | (with_reducible refine Below.alloc ?_ ?hh _; case hh => first | (simp; done) | (simp; omega) | omega) | (with_reducible refine Below.setCell ?_ ?hh _; case hh => first | (simp; done) | (simp; omega) | omega) | refine bstep (by assumption) (by first | (simp; done) | (simp; omega) | omega) ?_), by simp⟩
  case round =>
    clear e64 hne h12I
    obtain ⟨n, i, cs, y, us, G, rfl, hi, hf, hcl, hrun0, hcw, p0, p1, pf, r0, r1, rf, hB, hb, hzb⟩ := hrel
    have HR : Hid (run s (bAt s 0) (s.size + 1) 1 [] = run s (bAt s 0) n i cs) := hrun0
    clear hrun0
    obtain ⟨wo, hwo⟩ : ∃ x, x = wr := ⟨_, rfl⟩
    subst hwo
    obtain ⟨ay, cy, rfl⟩ := hB.shape
    have e0 : w.heap.size + 1 < wo.heap.size := by omega
    have e1 : w.heap.size < wo.heap.size := by omega
    have hcI : (cs.length : Int) ≤ 401 := by omega
    by_cases hgo : i < s.size ∧ cs.length ≤ 400
    · obtain ⟨hlt, h400⟩ := hgo
      have hltI : (i : Int) < s.size := by omega
      have h400I : decide ((cs.length : Int) ≤ 400) = true := by simp; omega
      obtain ⟨n, rfl⟩ : ∃ n', n = n' + 1 := ⟨n - 1, by omega⟩
      obtain ⟨k1, n1, x1, j, hT⟩ : ∃ k n x j, getT s i = (k, n, x, j) := ⟨_, _, _, _, rfl⟩
      have HJ : Hid (tJ s i = j) := by show tJ s i = j; unfold tJ; rw [hT]
      have HN1 : Hid ((tV s i).n = n1) := by show (tV s i).n = n1; unfold tV; rw [hT]
      go_wp2_with fail
      refine Calls.mono (specGet_v hT wo hs) ?_
      rintro e w2 ⟨rfl, hb2⟩
      have hzw := hb2.size
      have hfz := (bcell hb2).2
      have hcz := (bcell hb2).1
      have u0 : w2.cell? ⟨w.heap.size, 0, none⟩ = some (.int .i64 0) := (hcz _ _ (by omega)).trans r0
      have u1 : w2.cell? ⟨w.heap.size, 1, none⟩ = some (.slice none 0 0) := (hcz _ _ (by omega)).trans r1
      have uf : ∀ o, w2.frozen? ⟨w.heap.size, o, none⟩ = false := fun o => (hfz _ _ (by omega)).trans (rf o)
      have q0 : w2.cell? ⟨w.heap.size + 1, 0, none⟩ = some (.int .i64 (bAt s 0)) := (hcz _ _ (by omega)).trans p0
      have q1 : w2.cell? ⟨w.heap.size + 1, 1, none⟩ = some (.slice ay cs.length cy) := (hcz _ _ (by omega)).trans p1
      have qf : ∀ o, w2.frozen? ⟨w.heap.size + 1, o, none⟩ = false := fun o => (hfz _ _ (by omega)).trans (pf o)
      have hbw2 : Below w.heap.size w w2 := hb.trans (hb2.mono hb.size)
      have hB2 := hB.below hb2
      have n3 : w.heap.size < w2.heap.size := by omega
      have n4 : w.heap.size + 1 < w2.heap.size := by omega
      have n5 : w.heap.size < w2.heap.size + 1 := by omega
      have n6 : w.heap.size + 1 < w2.heap.size + 1 := by omega
      clear hfz hcz p0 p1 pf r0 r1 rf hT hB
      go_wp2_with fail
      go_loopw [5, 9] (fun at' kk wr => ∃ (q : Nat) (y : Value), q ≤ bAt s 0 ∧ kk = .int .i64 q ∧ at' = .int .i64 (valsJ s q j) ∧ wr.ownsRow (w2.heap.size + 1 + 1) 48 3 y q (rc (valsV s q j)) ∧
          wr.cell? ⟨w2.heap.size + 1, 0, none⟩ = some y ∧ wr.cell? ⟨w2.heap.size + 1, 1, none⟩ = some (.int .i64 n1) ∧ (∀ o, wr.frozen? ⟨w2.heap.size + 1, o, none⟩ = false) ∧ Below w2.heap.size w2 wr ∧ w2.heap.size + 1 + 1 ≤ wr.heap.size) (fun _ kk _ => bAt s 0 - (intOf kk).toNat)
      case atStart =>
        refine ⟨0, .slice none 0 0, Nat.zero_le _, rfl, rfl, ⟨rfl, .inl ⟨rfl, rfl⟩⟩, by go_simp, by go_simp, fun o => by go_simp, by repeat (first | (with_reducible exact Below.refl _ _) | (with_reducible refine Below.drew ?_) | (with_reducible refine Below.alloc ?_ ?hh _; case hh => first | (simp; done) | (simp; omega) | omega) | (with_reducible refine Below.setCell ?_ ?hh _; case hh => first | (simp; done) | (simp; omega) | omega) | refine bstep (by assumption) (by first | (simp; done) | (simp; omega) | omega) ?_), by simp⟩
      case round =>
        obtain ⟨q, y, hq, rfl, rfl, hown, a0, a1, af, hbi, hzi⟩ := hrel
        have hcz := (bcell hbi).1
        have hfz := (bcell hbi).2
        have t0 : wr.cell? ⟨w.heap.size, 0, none⟩ = some (.int .i64 0) := (hcz _ _ (by omega)).trans u0
        have t1 : wr.cell? ⟨w.heap.size, 1, none⟩ = some (.slice none 0 0) := (hcz _ _ (by omega)).trans u1
        have tf : ∀ o, wr.frozen? ⟨w.heap.size, o, none⟩ = false := fun o => (hfz _ _ (by omega)).trans (uf o)
        have z0 : wr.cell? ⟨w.heap.size + 1, 0, none⟩ = some (.int .i64 (bAt s 0)) := (hcz _ _ (by omega)).trans q0
        have z1 : wr.cell? ⟨w.heap.size + 1, 1, none⟩ = some (.slice ay cs.length cy) := (hcz _ _ (by omega)).trans q1
        have zf : ∀ o, wr.frozen? ⟨w.heap.size + 1, o, none⟩ = false := fun o => (hfz _ _ (by omega)).trans (qf o)
        have c0 : w.heap.size < wr.heap.size := by omega
        have c1 : w.heap.size + 1 < wr.heap.size := by omega
        have c2 : w2.heap.size + 1 < wr.heap.size := by omega
        have hq12 : (q : Int) ≤ 12 := by omega
        have hol := ownsRow_lt hown
        clear hfz hcz
        by_cases hin : q < bAt s 0 ∧ 0 ≤ valsJ s q j
        · obtain ⟨hqW, hp0⟩ := hin
          clear u0 u1 uf q0 q1 qf
          obtain ⟨k2, n2, s2, j2, hT2⟩ : ∃ k' n' x' j', getT s (valsJ s q j) = (k', n', x', j') := ⟨_, _, _, _, rfl⟩
          have HV : Hid (rc (valsV s (q + 1) j) = rc (valsV s q j) ++ [.int .i64 k2, .int .i64 n2, .string s2]) := by
            show rc (valsV s (q + 1) j) = _
            rw [valsV_succ, rc_push]
            unfold tV; rw [hT2]
          have HJ2 : Hid (valsJ s (q + 1) j = j2) := by
            show valsJ s (q + 1) j = j2
            rw [valsJ_succ]; unfold tJ; rw [hT2]
          have hqWI : (q : Int) < (bAt s 0 : Nat) := by omega
          have hv8 : y.ownBlock ≠ some (w2.heap.size + 1) := fun e => by have := (hol _ e).1; omega
          go_wp2_with fail
          refine Calls.mono (specGet_v hT2 wr hs) ?_
          rintro e w3 ⟨rfl, hb3⟩
          have hz3 := hb3.size
          have A0 : w3.cell? ⟨w2.heap.size + 1, 0, none⟩ = some y := ((bcell hb3).1 _ _ (by omega)).trans a0
          have A1 : w3.cell? ⟨w2.heap.size + 1, 1, none⟩ = some (.int .i64 n1) := ((bcell hb3).1 _ _ (by omega)).trans a1
          have Af : ∀ o, w3.frozen? ⟨w2.heap.size + 1, o, none⟩ = false := fun o => ((bcell hb3).2 _ _ (by omega)).trans (af o)
          have hown3 := ownsRow_keep hown (fun b hb' => hb3.block b (hol b hb').2)
          have hbi3 : Below w2.heap.size w2 w3 := hbi.trans (hb3.mono hbi.size)
          have d1 : w2.heap.size + 1 < w3.heap.size := by omega
          have d2 : w2.heap.size + 1 < w3.heap.size + 1 := by omega
          clear hown a0 a1 af t0 t1 tf z0 z1 zf hT2
          go_wp2_with (at_builtin; refine wpList_append_own _ rfl _ _ 37 rfl (w2.heap.size + 1 + 1) 48 i1 _ 3 32 Tryz.underlying37 hi1 hv0 hv1 hv2 rfl (by decide) y q (rc (valsV s q j)) rfl ?hown ⟨w3.heap.size + 1, 0, none⟩ 1 1 [.int .i64 k2, .int .i64 n2, .string s2] rfl rfl ?c1 ?c2 ?c3 ?c4 ?c5 ?_)
          case hown =>
            refine ownsRow_keep hown3 fun b hb' => ?_
            have h1 := ownsRow_lt hown3 b hb'
            rw [Below.heap_alloc _ _ _ (by simp; omega), Below.heap_alloc _ _ _ (by omega)]
          case c1 =>
            intro j' u hu
            match j', hu with
            | 0, hu => simp at hu; subst hu; go_simp
            | 1, hu => simp at hu; subst hu; go_simp
            | 2, hu => simp at hu; subst hu; go_simp
          case c2 => intro u hu; simp at hu; rcases hu with rfl | rfl | rfl <;> rfl
          case c3 => unfold maxLen; omega
          case c4 => omega
          case c5 => simp; omega
          intro v5 w5 hown5 hgr5 _
          have hsz5 := hgr5.size
          simp at hsz5
          have B0 : w5.cell? ⟨w2.heap.size + 1, 0, none⟩ = some y := (hgr5.cell_far _ (by simp; try omega) (fun e => hv8 e.symm)).trans (by go_simp)
          have B1 : w5.cell? ⟨w2.heap.size + 1, 1, none⟩ = some (.int .i64 n1) := (hgr5.cell_far _ (by simp; try omega) (fun e => hv8 e.symm)).trans (by go_simp)
          have Bf : ∀ o, w5.frozen? ⟨w2.heap.size + 1, o, none⟩ = false := fun o => (hgr5.frozen_far _ (by simp; try omega) (fun e => hv8 e.symm)).trans (by go_simp)
          have hbel4 : Below w2.heap.size w2 ((w3.alloc (.cells #[.int .i64 k2, .int .i64 n2, .string s2] 48)).alloc (.cells #[.int .i64 k2, .int .i64 n2, .string s2] 48)) := (hbi3.alloc (by omega) _).alloc (by simp; omega) _
          have hbel5 : Below w2.heap.size w2 w5 := hbel4.grown hgr5 (by simp; omega) (fun k' hk' => by have := (hol _ hk').1; omega)
          have hown6 : w5.ownsRow (w2.heap.size + 1 + 1) 48 3 v5 (q + 1) (rc (valsV s (q + 1) j)) := by rw [HV.out]; exact hown5
          have hol5 := ownsRow_lt hown6
          obtain ⟨g5, c5, hv5⟩ : ∃ g c, v5 = .slice (some ⟨g, 0, none⟩) (q + 1) c := by
            rcases hown6.2 with ⟨_, h0⟩ | ⟨g, cap, cur, hv, _⟩
            · omega
            · exact ⟨g, cap, hv⟩
          subst hv5
          have e5 : w2.heap.size + 1 < w5.heap.size := by omega
          clear hown5 hgr5 hown3 hol hbel4 A0 A1 Af
          go_wp2_with fail
          refine ⟨⟨q + 1, .slice (some ⟨g5, 0, none⟩) (q + 1) c5, hqW, by simp, by rw [HJ2.out], ?_, by go_simp, by go_simp, fun o => by go_simp, ?_, by simp; omega⟩, by simp [intOf]; omega⟩
          · refine ownsRow_keep hown6 fun b hb' => ?_
            have h1 := hol5 b hb'
            rw [Below.heap_setCell _ _ _ _ (by show b ≠ w2.heap.size + 1; omega)]
          · exact hbel5.setCell (by show w2.heap.size ≤ w2.heap.size + 1; omega) _
        by_cases hp0 : valsJ s q j < 0
        · have he : endS s (bAt s 0) i < 0 := by
            unfold endS
            rw [HJ.out, show bAt s 0 = q + (bAt s 0 - q) from by omega]
            exact valsJ_late s j _ q hp0
          have HN : Hid (ansB s = none) := by
            show ansB s = none
            rw [HRS.out, HR.out, run, if_pos ⟨hltI, h400⟩, if_pos he]
          have hbX : Below w.heap.size w wr := hbw2.trans (hbi.mono (by omega))
          have hp1 : decide (0 ≤ valsJ s q j) = false := by simp; omega
          clear u0 u1 uf q0 q1 qf hown a0 a1 af hB2 he hin hol
          generalize valsJ s q j = p at *
          have key : ∀ b : Bool, (if b then decide (0 ≤ p) else false) = false := by intro b; cases b <;> simp [hp1]
          by_cases hqW : q < bAt s 0
          · have hqWI : (q : Int) < (bAt s 0 : Nat) := by omega
            go_wp2_with fail
            refine bodyPost_ret (v := .tuple #[.agg #[.int .i64 0, .slice none 0 0], .bool false]) (by simp [results, Tryz.results9, go_sem, *]) rfl ⟨⟨_, [], [], by rw [(ans_none HN.out).1, (ans_none HN.out).2.2], by rw [(ans_none HN.out).2.1]; exact BagOwn.nil _ _⟩, ?_⟩
            repeat (first | (with_reducible exact hbX) | (with_reducible refine Below.setCell ?_ ?hh _; case hh => (first | (simp; done) | (simp; omega))))
          · have hqWI : decide ((q : Int) < (bAt s 0 : Nat)) = false := by simp; omega
            go_wp2_with fail
            refine bodyPost_ret (v := .tuple #[.agg #[.int .i64 0, .slice none 0 0], .bool false]) (by simp [results, Tryz.results9, go_sem, *]) rfl ⟨⟨_, [], [], by rw [(ans_none HN.out).1, (ans_none HN.out).2.2], by rw [(ans_none HN.out).2.1]; exact BagOwn.nil _ _⟩, ?_⟩
            repeat (first | (with_reducible exact hbX) | (with_reducible refine Below.setCell ?_ ?hh _; case hh => (first | (simp; done) | (simp; omega))))
        obtain rfl : q = bAt s 0 := by omega
        have he : 0 ≤ endS s (bAt s 0) i := by unfold endS; rw [HJ.out]; omega
        obtain ⟨e, hee⟩ : ∃ e : Nat, endS s (bAt s 0) i = e := ⟨(endS s (bAt s 0) i).toNat, by omega⟩
        obtain ⟨a', b', ea, eb, hab, hbs, _⟩ := end_round s (bAt s 0) i he
        have hei : i < e := by omega
        have hes : e ≤ s.size := by omega
        have HS : Hid (run s (bAt s 0) (n + 1) i cs = run s (bAt s 0) n e (cs ++ [rowS s (bAt s 0) i])) := by
          show run s (bAt s 0) (n + 1) i cs = _
          rw [run, if_pos ⟨hltI, h400⟩, if_neg (by omega), hee]
        have hval : valsJ s (bAt s 0) j = e := by unfold endS at hee; rw [HJ.out] at hee; exact hee
        have HROW : Hid (rowS s (bAt s 0) i = ⟨valsV s (bAt s 0) j, n1⟩) := by show rowS s (bAt s 0) i = _; unfold rowS; rw [HJ.out, HN1.out]
        have hrw := rowS_wf s (bAt s 0) i
        obtain ⟨g, hRF, hOg⟩ := own_rowF (vs := valsV s (bAt s 0) j) hown
        rw [hval]
        clear ea eb hee he hin hp0 hval hown hol hq
        generalize valsV s (bAt s 0) j = row at *
        obtain ⟨au, cu, hu⟩ : ∃ a c, y = .slice a row.length c := by obtain ⟨a, c, h, _⟩ := hRF; exact ⟨a, c, h⟩
        subst hu
        have hB3 := hB2.keep hbi.size (fun b _ hlt => hbi.block b hlt)
        have hol := ownsRow_lt hB2.own
        have hGl := hB2.lt
        have hv4 : Value.ownBlock (.slice ay cs.length cy) ≠ some (w.heap.size + 1) := fun e => by have := (hol _ e).1; omega
        have hv2 : Value.ownBlock (.slice ay cs.length cy) ≠ some w.heap.size := fun e => by have := (hol _ e).1; omega
        have hb24 : Below wr.heap.size wr (wr.alloc (.cells #[.slice au row.length cu, .int .i64 n1] 39)) := (Below.refl _ _).alloc (Nat.le_refl _) _
        have hB4 := hB3.below hb24
        have hR4 : RowF (wr.alloc (.cells #[.slice au row.length cu, .int .i64 n1] 39)) (.slice au row.length cu) row g := hRF.keep hb24.size fun c hc => hb24.block c (hRF.lt c hc)
        have hO4 : Own (wr.alloc (.cells #[.slice au row.length cu, .int .i64 n1] 39)) (w.heap.size + 1 + 1) g := Own.keep (w := wr) ⟨hOg.1, fun b hb' => by have := hOg.2.1 b hb'; omega, hOg.2.2⟩ fun c hc => hb24.block c (hRF.lt c hc)
        have hnew : ∀ j' u, [Value.slice au row.length cu, Value.int .i64 n1][j']? = some u → (wr.alloc (.cells #[.slice au row.length cu, .int .i64 n1] 39)).cell? ((⟨wr.heap.size, 0, none⟩ : Addr).add j') = some u := by
          intro j' u hu
          match j', hu with
          | 0, hu => simp at hu; subst hu; go_simp
          | 1, hu => simp at hu; subst hu; go_simp
        have hbX : Below w.heap.size w wr := hbw2.trans (hbi.mono (by omega))
        have heI : decide ((e : Int) < 0) = false := by simp
        have hnlt : decide ((bAt s 0 : Int) < (bAt s 0 : Nat)) = false := by simp
        clear u0 u1 uf q0 q1 qf
        go_wp2_with (at_builtin; refine wpList_append_own_at _ rfl _ _ 24 rfl (w.heap.size + 1 + 1) 39 i0 _ 2 32 Tryz.underlying24 hi0 hz0 hz1 hz2 rfl (by decide) (.slice ay cs.length cy) cs.length (cc us cs) rfl hB4.own ⟨wr.heap.size, 0, none⟩ 1 1 [.slice au row.length cu, .int .i64 n1] rfl rfl hnew (by simp [Value.oneCell']) ?c3 ?c4 ?c5 ?_)
        case c3 => unfold maxLen; omega
        case c4 => omega
        case c5 => simp; omega
        intro v5 w5 hown5 hgr5 _ hat5
        have hB5 : BagOwn w5 (w.heap.size + 1 + 1) v5 (cs ++ [⟨row, n1⟩]) (us ++ [.slice au row.length cu]) (G ++ [g]) := hB4.push hR4 hO4 (fun b hb1 hb2' => by have := hGl b hb1; have := hOg.2.1 b hb2'; omega) (fun b hb1 hb2' => by have := (hol b hb1).2; have := hOg.2.1 b hb2'; omega) hown5 hgr5 (fun b hb1 => by
          rcases hat5 with e | e
          · left; rw [← e]; exact hb1
          · right; rw [e] at hb1; cases hb1; first | exact Nat.le_refl _ | simp | (simp; omega))
        have hsz5 := hgr5.size
        simp at hsz5
        have A0 : w5.cell? ⟨w.heap.size + 1, 0, none⟩ = some (.int .i64 (bAt s 0)) := (hgr5.cell_far _ (by simp; try omega) (fun e => hv4 e.symm)).trans (by go_simp)
        have A1 : w5.cell? ⟨w.heap.size + 1, 1, none⟩ = some (.slice ay cs.length cy) := (hgr5.cell_far _ (by simp; try omega) (fun e => hv4 e.symm)).trans (by go_simp)
        have Af : ∀ o, w5.frozen? ⟨w.heap.size + 1, o, none⟩ = false := fun o => (hgr5.frozen_far _ (by simp; try omega) (fun e => hv4 e.symm)).trans (by go_simp)
        have D0 : w5.cell? ⟨w.heap.size, 0, none⟩ = some (.int .i64 0) := (hgr5.cell_far _ (by simp; try omega) (fun e => hv2 e.symm)).trans (by go_simp)
        have D1 : w5.cell? ⟨w.heap.size, 1, none⟩ = some (.slice none 0 0) := (hgr5.cell_far _ (by simp; try omega) (fun e => hv2 e.symm)).trans (by go_simp)
        have Df : ∀ o, w5.frozen? ⟨w.heap.size, o, none⟩ = false := fun o => (hgr5.frozen_far _ (by simp; try omega) (fun e => hv2 e.symm)).trans (by go_simp)
        have hbel5 : Below w.heap.size w w5 := (hbX.trans (hb24.mono (by omega))).grown hgr5 (by simp; omega) (fun k' hk' => by have := (hol _ hk').1; omega)
        obtain ⟨a5, c5, hv5⟩ := hB5.shape
        have hv5' : v5 = .slice a5 (cs.length + 1) c5 := by rw [hv5]; simp
        clear hv5
        subst hv5'
        have m1 : w.heap.size + 1 < w5.heap.size := by omega
        have m2 : w.heap.size < w5.heap.size := by omega
        have hB6 : BagOwn (w5.setCell ⟨w.heap.size + 1, 1, none⟩ (.slice a5 (cs.length + 1) c5)) (w.heap.size + 1 + 1) (.slice a5 (cs.length + 1) c5) (cs ++ [⟨row, n1⟩]) (us ++ [.slice au row.length cu]) (G ++ [g]) := hB5.keep (by simp) fun b hb1 _ => Below.heap_setCell _ _ _ _ (by show b ≠ w.heap.size + 1; omega)
        have hbel6 : Below w.heap.size w (w5.setCell ⟨w.heap.size + 1, 1, none⟩ (.slice a5 (cs.length + 1) c5)) := hbel5.setCell (by show w.heap.size ≤ w.heap.size + 1; omega) _
        clear hown5 hgr5 hB4 hR4 hO4 hB5 hB3 hB2 hRF hOg hat5 hol hGl t0 t1 tf z0 z1 zf a0 a1 af hb24 hnew
        go_wp2_with fail
        refine ⟨⟨n, e, cs ++ [⟨row, n1⟩], .slice a5 (cs.length + 1) c5, us ++ [.slice au row.length cu], G ++ [g], rfl, hes, by omega, by simp; omega, by rw [HR.out, HS.out, HROW.out], ?_, by go_simp, by go_simp, fun o => by go_simp, by go_simp, by go_simp, fun o => by go_simp, hB6, hbel6, by simp; omega⟩, by simp [intOf]; omega⟩
        intro z hz
        rcases List.mem_append.1 hz with hz | hz
        · exact hcw z hz
        · rcases List.mem_singleton.1 hz with rfl
          rw [HROW.out] at hrw
          exact hrw
    by_cases hlt : i < s.size
    · have hltI : (i : Int) < s.size := by omega
      have h400I : decide ((cs.length : Int) ≤ 400) = false := by simp; omega
      have HE : Hid (ansB s = if putB (bAt s 0) cs = s then some cs else none) := by
        show ansB s = _
        rw [HRS.out, HR.out, run_stop _ _ _ _ _ (by omega)]
      obtain ⟨F, hRs, hOs⟩ := hB.rowsF
      go_wp2_with fail
      refine Calls.mono (specPutBag_any (bAt s 0) (.slice ay cs.length cy) cs wo hcw hRs.is) ?_
      rintro e w2 ⟨rfl, hb2⟩
      have hzw := hb2.size
      have hfz := (bcell hb2).2
      have hcz := (bcell hb2).1
      have u0 : w2.cell? ⟨w.heap.size, 0, none⟩ = some (.int .i64 0) := (hcz _ _ (by omega)).trans r0
      have u1 : w2.cell? ⟨w.heap.size, 1, none⟩ = some (.slice none 0 0) := (hcz _ _ (by omega)).trans r1
      have uf : ∀ o, w2.frozen? ⟨w.heap.size, o, none⟩ = false := fun o => (hfz _ _ (by omega)).trans (rf o)
      have q0 : w2.cell? ⟨w.heap.size + 1, 0, none⟩ = some (.int .i64 (bAt s 0)) := (hcz _ _ (by omega)).trans p0
      have q1 : w2.cell? ⟨w.heap.size + 1, 1, none⟩ = some (.slice ay cs.length cy) := (hcz _ _ (by omega)).trans p1
      have hbw2 : Below w.heap.size w w2 := hb.trans (hb2.mono hb.size)
      have n3 : w.heap.size < w2.heap.size := by omega
      have n5 : w.heap.size + 1 < w2.heap.size := by omega
      have hB2 := hB.below hb2
      clear hfz hcz p0 p1 pf r0 r1 rf hB hRs hOs
      by_cases hok : putB (bAt s 0) cs = s
      · have HN : Hid (ansB s = some cs) := by show ansB s = some cs; rw [HE.out, if_pos hok]
        rw [hok]
        clear hok
        go_wp2_with fail
        refine bodyPost_ret (v := .tuple #[.agg #[.int .i64 (bAt s 0), .slice ay cs.length cy], .bool true]) (by simp [results, Tryz.results9, go_sem, *]) rfl ⟨⟨_, us, G, by rw [(ans_some HN.out).1, (ans_some HN.out).2.2], ?_⟩, ?_⟩
        · rw [(ans_some HN.out).2.1]
          refine BagOwn.weak (N := w.heap.size + 1 + 1) (hB2.keep (by simp) fun b hb1 _ => ?_) (by omega)
          repeat rw [Below.heap_setCell _ _ _ _ (by show b ≠ w.heap.size; omega)]
        · repeat (first | (with_reducible exact hbw2) | (with_reducible refine Below.setCell ?_ ?hh _; case hh => (first | (simp; done) | (simp; omega))))
      · have HN : Hid (ansB s = none) := by show ansB s = none; rw [HE.out, if_neg hok]
        have hokb : ((putB (bAt s 0) cs).toList == s.toList) = false := beq_eq_false_iff_ne.2 fun e => hok (by rw [ByteArray.toList_eq, ByteArray.toList_eq] at e; exact ByteArray.ext (Array.toList_inj.1 e))
        clear hB2
        go_wp2_with fail
        refine bodyPost_ret (v := .tuple #[.agg #[.int .i64 0, .slice none 0 0], .bool false]) (by simp [results, Tryz.results9, go_sem, *]) rfl ⟨⟨_, [], [], by rw [(ans_none HN.out).1, (ans_none HN.out).2.2], by rw [(ans_none HN.out).2.1]; exact BagOwn.nil _ _⟩, ?_⟩
        repeat (first | (with_reducible exact hbw2) | (with_reducible refine Below.setCell ?_ ?hh _; case hh => (first | (simp; done) | (simp; omega))))
    · have hltI : decide ((i : Int) < s.size) = false := by simp; omega
      have HE : Hid (ansB s = if putB (bAt s 0) cs = s then some cs else none) := by
        show ansB s = _
        rw [HRS.out, HR.out, run_stop _ _ _ _ _ (by omega)]
      obtain ⟨F, hRs, hOs⟩ := hB.rowsF
      go_wp2_with fail
      refine Calls.mono (specPutBag_any (bAt s 0) (.slice ay cs.length cy) cs wo hcw hRs.is) ?_
      rintro e w2 ⟨rfl, hb2⟩
      have hzw := hb2.size
      have hfz := (bcell hb2).2
      have hcz := (bcell hb2).1
      have u0 : w2.cell? ⟨w.heap.size, 0, none⟩ = some (.int .i64 0) := (hcz _ _ (by omega)).trans r0
      have u1 : w2.cell? ⟨w.heap.size, 1, none⟩ = some (.slice none 0 0) := (hcz _ _ (by omega)).trans r1
      have uf : ∀ o, w2.frozen? ⟨w.heap.size, o, none⟩ = false := fun o => (hfz _ _ (by omega)).trans (rf o)
      have q0 : w2.cell? ⟨w.heap.size + 1, 0, none⟩ = some (.int .i64 (bAt s 0)) := (hcz _ _ (by omega)).trans p0
      have q1 : w2.cell? ⟨w.heap.size + 1, 1, none⟩ = some (.slice ay cs.length cy) := (hcz _ _ (by omega)).trans p1
      have hbw2 : Below w.heap.size w w2 := hb.trans (hb2.mono hb.size)
      have n3 : w.heap.size < w2.heap.size := by omega
      have n5 : w.heap.size + 1 < w2.heap.size := by omega
      have hB2 := hB.below hb2
      clear hfz hcz p0 p1 pf r0 r1 rf hB hRs hOs
      by_cases hok : putB (bAt s 0) cs = s
      · have HN : Hid (ansB s = some cs) := by show ansB s = some cs; rw [HE.out, if_pos hok]
        rw [hok]
        clear hok
        go_wp2_with fail
        refine bodyPost_ret (v := .tuple #[.agg #[.int .i64 (bAt s 0), .slice ay cs.length cy], .bool true]) (by simp [results, Tryz.results9, go_sem, *]) rfl ⟨⟨_, us, G, by rw [(ans_some HN.out).1, (ans_some HN.out).2.2], ?_⟩, ?_⟩
        · rw [(ans_some HN.out).2.1]
          refine BagOwn.weak (N := w.heap.size + 1 + 1) (hB2.keep (by simp) fun b hb1 _ => ?_) (by omega)
          repeat rw [Below.heap_setCell _ _ _ _ (by show b ≠ w.heap.size; omega)]
        · repeat (first | (with_reducible exact hbw2) | (with_reducible refine Below.setCell ?_ ?hh _; case hh => (first | (simp; done) | (simp; omega))))
      · have HN : Hid (ansB s = none) := by show ansB s = none; rw [HE.out, if_neg hok]
        have hokb : ((putB (bAt s 0) cs).toList == s.toList) = false := beq_eq_false_iff_ne.2 fun e => hok (by rw [ByteArray.toList_eq, ByteArray.toList_eq] at e; exact ByteArray.ext (Array.toList_inj.1 e))
        clear hB2
        go_wp2_with fail
        refine bodyPost_ret (v := .tuple #[.agg #[.int .i64 0, .slice none 0 0], .bool false]) (by simp [results, Tryz.results9, go_sem, *]) rfl ⟨⟨_, [], [], by rw [(ans_none HN.out).1, (ans_none HN.out).2.2], by rw [(ans_none HN.out).2.1]; exact BagOwn.nil _ _⟩, ?_⟩
        repeat (first | (with_reducible exact hbw2) | (with_reducible refine Below.setCell ?_ ?hh _; case hh => (first | (simp; done) | (simp; omega))))
end Go.Proofs.YtiaafgmjigbjlaaGreatDoor
/- Own text. The contract of impl.PutBag. -/
namespace Go.Proofs.YtiaafgmjigbjlaaGreatDoor
open Go.RowKit
set_option linter.unusedVariables false
set_option maxHeartbeats 4000000 in
set_option maxRecDepth 100000 in
theorem implPutBag_any (W : Int) (v : Value) (cs : List C2) (w : World) (hw : CsWf cs) (hr : RowsIs w v cs) :
    Calls Tryz.prog 6 #[.agg #[.int .i64 W, v]] w fun e w' => e = .returned (.string (putB W cs)) ∧ Below w.heap.size w w' := by
  obtain ⟨i0, hi, hi0, hi1, hi2⟩ := info_parts info5
  have hr0 := hr
  obtain ⟨a, c, b, o, rfl, hl, hc, ha⟩ := hr.pick
  unfold maxLen at hc
  go_enter Tryz.func6, Tryz.ntmps6
  go_wp2_with fail
  refine Calls.mono (implBagOk_any W (.slice a cs.length c) cs _ hw (hr0.below ?hb)) ?_
  case hb => repeat (first | exact Below.refl _ _ | refine Below.drew ?_ | refine Below.alloc ?_ (by first | (simp; done) | (simp; omega) | omega) _ | refine Below.setCell ?_ (by first | (simp; done) | (simp; omega) | omega) _ | refine bstep (by assumption) (by first | (simp; done) | (simp; omega) | omega) ?_)
  rintro e w1 ⟨rfl, hb1⟩
  have hz1 := hb1.size
  simp only [World.size_alloc] at hz1
  have p0 : w1.cell? ⟨w.heap.size, 0, none⟩ = some (.int .i64 W) := cell_later hb1 (by go_simp)
  have p1 : w1.cell? ⟨w.heap.size, 1, none⟩ = some (.slice a cs.length c) := cell_later hb1 (by go_simp)
  have bel1 : Below w.heap.size w w1 := by repeat (first | exact Below.refl _ _ | refine Below.drew ?_ | refine Below.alloc ?_ (by first | (simp; done) | (simp; omega) | omega) _ | refine Below.setCell ?_ (by first | (simp; done) | (simp; omega) | omega) _ | refine bstep (by assumption) (by first | (simp; done) | (simp; omega) | omega) ?_)
  have hsz1 : w.heap.size < w1.heap.size := by omega
  by_cases hok : okBag W cs = true
  rotate_left
  · have hf : okBag W cs = false := by simpa using hok
    go_wp2
    go_returns
    exact ⟨by simp [putB, hf], bel1⟩
  obtain ⟨hW0, hW1, hlen, hrl⟩ := okBag_facts hok
  have hWm : W % 256 = W := by omega
  have HP : Hid (putB W cs = strOfNums (bagN W cs)) := by simp [Hid, putB, hok]
  have hr1 := hr0.below bel1
  clear hr hr0 ha
  obtain ⟨a', c', b, o, hv', _, _, ha⟩ := hr1.pick
  obtain ⟨rfl, rfl⟩ : a = a' ∧ c = c' := by simpa using hv'
  clear hv' hr1
  go_wp2
  go_loopw [3, 16] (fun v i wr => ∃ k : Nat, k ≤ cs.length ∧ i = .int .i64 k ∧ wr.ownsRow w1.heap.size 5 1 v (bagN W (cs.take k)).length ((bagN W (cs.take k)).map (Value.int .u8)) ∧ Below w1.heap.size w1 wr) (fun _ i _ => cs.length - (intOf i).toNat)
  case atStart => exact ⟨0, Nat.zero_le _, rfl, own_start w1 W, by repeat (first | exact Below.refl _ _ | refine Below.drew ?_ | refine Below.alloc ?_ (by first | (simp; done) | (simp; omega) | omega) _ | refine Below.setCell ?_ (by first | (simp; done) | (simp; omega) | omega) _ | refine bstep (by assumption) (by first | (simp; done) | (simp; omega) | omega) ?_)⟩
  case round =>
    obtain ⟨k, hk, rfl, hown, hb⟩ := hrel
    have hzb := hb.size
    have hkl : (bagN W (cs.take k)).length ≤ 500000 := by
      have := csN_len (cs := cs.take k) fun x hx => hrl x (List.mem_of_mem_take hx)
      have h2 : (cs.take k).length ≤ 400 := by simp; omega
      simp only [bagN, List.length_cons]; omega
    by_cases hlt : k < cs.length
    · obtain ⟨rfl, hblt, hL⟩ := ha k hlt
      obtain ⟨x, hx⟩ : ∃ x, cs[k]? = some x := ⟨cs[k], by simp [hlt]⟩
      obtain ⟨u, e0, hR, e2⟩ := hL k x hx
      have c0 : wr.cell? ⟨b, o + k * 2, none⟩ = some u := (hb.cell (p := ⟨b, o + k * 2, none⟩) hblt).trans e0
      have c1 : wr.cell? ⟨b, o + k * 2 + 1, none⟩ = some (.int .i64 x.n) := (hb.cell (p := ⟨b, o + k * 2 + 1, none⟩) hblt).trans e2
      have hbr : b < wr.heap.size := Nat.lt_of_lt_of_le hblt hzb
      obtain ⟨ur, lr, cr, rfl⟩ := hR.shape
      have HX : Hid (cs[k]? = some x) := hx
      clear e0 e2
      have hxw : VsWf x.r := (hw x (List.mem_of_getElem? hx)).1
      have hxl : x.r.length ≤ 12 := hrl x (List.mem_of_getElem? hx)
      have hxu := rowU_len x.r
      clear ha hL hx hw hrl
      go_wp2_with fail
      refine Calls.mono (numberBytes_any x.n _) ?_
      rintro e w2 ⟨y, rfl, hy, hb2⟩
      have hz2 := hb2.size
      simp at hz2
      have hown2 := own_below (hown.alloc (.cells #[.slice ur lr cr, .int .i64 x.n] 39)) hb2
      have q0 : w2.cell? ⟨wr.heap.size, 0, none⟩ = some (.slice ur lr cr) := cell_later hb2 (by go_simp)
      have bel2 : Below w1.heap.size w1 w2 := by repeat (first | exact Below.refl _ _ | refine Below.drew ?_ | refine Below.alloc ?_ (by first | (simp; done) | (simp; omega) | omega) _ | refine Below.setCell ?_ (by first | (simp; done) | (simp; omega) | omega) _ | refine bstep (by assumption) (by first | (simp; done) | (simp; omega) | omega) ?_)
      obtain ⟨g, cap, rfl, hcl⟩ := own_cells hy
      go_wp2_with (at_builtin; refine wpList_append_own _ rfl _ _ 22 rfl w1.heap.size 5 i0 (.int .u8 0) 1 1 Tryz.underlying22 hi hi0 hi1 hi2 rfl (by decide) _ _ _ rfl hown2 ⟨g, 0, none⟩ 9 cap ((numL x.n 8).map (Value.int .u8)) rfl (by simp [numL_len]) hcl ?c2 ?c3 ?c4 ?c5 ?_)
      case c2 => intro u hu; obtain ⟨n, _, rfl⟩ := List.mem_map.1 hu; rfl
      case c3 => unfold maxLen; omega
      case c4 => omega
      case c5 => omega
      intro v3 w3 hown3 hgr3 _
      have hz3 := hgr3.size
      have bel3 : Below w1.heap.size w1 w3 := bel2.grown hgr3 (by omega) (fun k hk => (hown2.lt k hk).1)
      have q3 : w3.cell? ⟨wr.heap.size, 0, none⟩ = some (.slice ur lr cr) := (World.cell?_of_block (w := w2) (hgr3.block wr.heap.size (by omega) (fun e => by have := (hown.lt _ e.symm).2; omega))).trans q0
      clear hown2 hgr3 hown q0 hcl hy
      go_wp2_with fail
      refine Calls.mono (rowBytes_any _ x.r _ (hR.below bel3) hxw (by omega)) ?_
      rintro e w4 ⟨rfl, hb4⟩
      have hz4 := hb4.size
      have hown4 := own_below hown3 hb4
      have bel4 : Below w1.heap.size w1 w4 := by repeat (first | exact Below.refl _ _ | refine Below.drew ?_ | refine Below.alloc ?_ (by first | (simp; done) | (simp; omega) | omega) _ | refine Below.setCell ?_ (by first | (simp; done) | (simp; omega) | omega) _ | refine bstep (by assumption) (by first | (simp; done) | (simp; omega) | omega) ?_)
      clear hown3
      go_wp2_with (at_builtin; refine Lib.wpList_append_own_string _ rfl _ _ 22 9 rfl w1.heap.size 5 i0 Tryz.underlying22 Tryz.underlying9 hi hi0 hi1 hi2 _ _ _ rfl hown4 ⟨(rowU x.r).toArray⟩ rfl ?d3 ?d4 ?d5 ?_)
      case d3 => have : (⟨(rowU x.r).toArray⟩ : ByteArray).size = (rowU x.r).length := by simp [ByteArray.size]
                 unfold maxLen; omega
      case d4 => have : (⟨(rowU x.r).toArray⟩ : ByteArray).size = (rowU x.r).length := by simp [ByteArray.size]
                 omega
      case d5 => omega
      intro v5 w5 hown5 hgr5 _
      have hz5 := hgr5.size
      have bel5 : Below w1.heap.size w1 w5 := bel4.grown hgr5 (by omega) (fun k hk => (hown4.lt k hk).1)
      have eN : bagN W (cs.take (k + 1)) = bagN W (cs.take k) ++ (numL x.n 8 ++ nb (rowU x.r)) := by unfold bagN; rw [csN_take HX.out]; rfl
      have R5 : w5.ownsRow w1.heap.size 5 1 v5 (bagN W (cs.take (k + 1))).length ((bagN W (cs.take (k + 1))).map (Value.int .u8)) := by
        refine own_eq hown5 ?_ ?_
        · rw [eN]; simp only [List.length_append, numL_len, nb_len]; simp; omega
        · rw [eN]; simp only [List.map_append, nb_cells]; rfl
      clear hown5 hgr5 hown4 eN
      go_wp2
      go_roundw
      case rel => exact ⟨k + 1, hlt, by simp, R5, bel5⟩
      case measure => simp [intOf]; omega
    · clear ha hw hrl
      obtain rfl : k = cs.length := by omega
      rw [List.take_length] at hown
      have hcv := conv_own (bagN W cs) hown (by simp [bagN])
      go_wp2
      go_returns
      exact ⟨ret_str HP.out.symm, bel1.trans (hb.mono (by omega))⟩
end Go.Proofs.YtiaafgmjigbjlaaGreatDoor
/- Own text. A list of texts that grows by append; what Join makes of it. -/
namespace Go.Proofs.YtiaafgmjigbjlaaGreatDoor
open Go.RowKit Go.ChangeShapes Go.WideShapes
set_option linter.unusedVariables false
theorem Tryz.infoT : (Tryz.prog.info? 9).map (fun i => (i.zero, i.size, i.bytes)) = some (some (.string ⟨#[]⟩), 1, 16) := by kernel_rfl
/-- texts in their cells. -/
def strL (ls : List (List UInt8)) : List Value := ls.map fun l => .string (bs l)
theorem strL_push (ls : List (List UInt8)) (l : List UInt8) : strL (ls ++ [l]) = strL ls ++ [.string (bs l)] := by simp [strL]
/-- the slice value at block yb has the texts ls, in memory of the call's own from N on. -/
def TxtsAt (w : World) (N yb yc n : Nat) (ls : List (List UInt8)) : Prop := w.ownsRow N 9 1 (.slice (some ⟨yb, 0, none⟩) n yc) n (strL ls) ∧ ls.length = n
theorem TxtsAt.new {w : World} {N H : Nat} (hH : w.heap.size = H) (hN : N ≤ H) : TxtsAt (w.alloc (.cells #[] 9)) N H 0 0 [] := by
  subst hH
  exact ⟨⟨by simp [strL], .inr ⟨w.heap.size, 0, #[], rfl, hN, heap_alloc_new w _, Nat.le_refl _, by simp, by simp, by simp [strL]⟩⟩, rfl⟩
theorem TxtsAt.lt {w : World} {N yb yc n : Nat} {ls : List (List UInt8)} (h : TxtsAt w N yb yc n ls) : N ≤ yb ∧ yb < w.heap.size := by
  obtain ⟨⟨_, ho⟩, _⟩ := h
  rcases ho with ⟨h0, _⟩ | ⟨g, cap, cur, hv, hg, hc, _⟩
  · cases h0
  injection hv with e1
  injection e1 with e1
  injection e1 with e1
  subst e1
  refine ⟨hg, ?_⟩
  rcases Nat.lt_or_ge yb w.heap.size with h' | h'
  · exact h'
  · simp [Array.getElem?_eq_none h'] at hc
theorem TxtsAt.keep {w w' : World} {N yb yc n : Nat} {ls : List (List UInt8)} (h : TxtsAt w N yb yc n ls) (hb : w'.heap[yb]? = w.heap[yb]?) : TxtsAt w' N yb yc n ls := by
  obtain ⟨⟨hl, ho⟩, hn⟩ := h
  refine ⟨⟨hl, ?_⟩, hn⟩
  rcases ho with ⟨h0, _⟩ | ⟨g, cap, cur, hv, hg, hc, rest⟩
  · cases h0
  have e : yb = g := by injection hv with e1; injection e1 with e1; injection e1
  subst e
  exact .inr ⟨yb, cap, cur, hv, hg, hb.trans hc, rest⟩
theorem TxtsAt.below {w w' : World} {N yb yc n : Nat} {ls : List (List UInt8)} (h : TxtsAt w N yb yc n ls) (hb : Below w.heap.size w w') : TxtsAt w' N yb yc n ls := h.keep (hb.block _ h.lt.2)
theorem TxtsAt.alloc {w : World} {N yb yc n : Nat} {ls : List (List UInt8)} (h : TxtsAt w N yb yc n ls) (o : Obj) : TxtsAt (w.alloc o) N yb yc n ls := h.keep (Below.heap_alloc _ _ _ h.lt.2)
theorem txt_new (w : World) (l : List UInt8) : ∀ j' u, [Value.string (bs l)][j']? = some u → (w.alloc (.cells #[.string (bs l)] 9)).cell? ((⟨w.heap.size, 0, none⟩ : Addr).add j') = some u := by
  intro j' u hu
  match j', hu with
  | 0, hu => simp at hu; subst hu; go_simp
/-- what append leaves. -/
theorem TxtsAt.push {w w' : World} {N n : Nat} {v : Value} {ls : List (List UInt8)} {l : List UInt8} (hn : ls.length = n) (h : w'.ownsRow N 9 1 v (n + 1) (strL ls ++ [.string (bs l)])) : ∃ yb yc, v = .slice (some ⟨yb, 0, none⟩) (n + 1) yc ∧ TxtsAt w' N yb yc (n + 1) (ls ++ [l]) := by
  rcases h.2 with ⟨_, h0⟩ | ⟨b5, c5, _, hv, _⟩
  · omega
  subst hv
  exact ⟨b5, c5, rfl, by rw [strL_push]; exact h, by rw [List.length_append, hn]; rfl⟩
theorem TxtsAt.cells {w : World} {N yb yc n : Nat} {ls : List (List UInt8)} (h : TxtsAt w N yb yc n ls) : n ≤ yc ∧ ∀ (j : Nat) (x : ByteArray), (ls.map bs)[j]? = some x → w.cell? ⟨yb, 0 + j, none⟩ = some (.string x) := by
  obtain ⟨⟨hl, ho⟩, hn⟩ := h
  rcases ho with ⟨h0, _⟩ | ⟨g, cap, cur, hv, hg, hc, hn', hm, hs, ht⟩
  · cases h0
  injection hv with e1 _ e3
  injection e1 with e1
  injection e1 with e1
  subst e1 e3
  refine ⟨hn', fun j x hx => ?_⟩
  have hj : j < ls.length := by have := (List.getElem?_eq_some_iff.1 hx).1; simpa using this
  have hu : (strL ls)[j]? = some (.string x) := by
    rw [List.getElem?_map] at hx
    obtain ⟨l, hl, rfl⟩ := Option.map_eq_some_iff.1 hx
    simp [strL, hl]
  simp only [World.cell?, hc]
  rw [← ht, List.getElem?_take, if_pos (by omega), Array.getElem?_toList] at hu
  simpa using hu
theorem join_len (ls : List (List UInt8)) (sep : List UInt8) (m : Nat) (h : ∀ l ∈ ls, l.length ≤ m) : (Lib.join ls sep).length ≤ (m + sep.length) * ls.length := by
  cases ls with
  | nil => simp [Lib.join_nil]
  | cons x r =>
    rw [Lib.join_cons, List.length_append, List.length_cons]
    have h1 := h x (by simp)
    have h2 : (Lib.joinTail sep r).length ≤ (m + sep.length) * r.length := by
      have hr : ∀ l ∈ r, l.length ≤ m := fun l hl => h l (by simp [hl])
      clear h h1
      unfold Lib.joinTail
      induction r with
      | nil => simp
      | cons y r ih =>
        have h3 := ih (fun l hl => hr l (by simp [hl]))
        have h4 := hr y (by simp)
        rw [List.map_cons, List.flatten_cons, List.length_append, List.length_append, List.length_cons, Nat.mul_succ]
        omega
    rw [Nat.mul_succ]
    omega
theorem map_bs_back (ls : List (List UInt8)) : (ls.map bs).map (·.data.toList) = ls := by
  rw [List.map_map]
  have e : ((fun x : ByteArray => x.data.toList) ∘ bs) = id := by funext l; simp [bs]
  rw [e, List.map_id]
theorem joinT_any (N yb yc n : Nat) (ls : List (List UInt8)) (sep : ByteArray) (w : World) (m : Nat) (h : TxtsAt w N yb yc n ls) (hl : ∀ l ∈ ls, l.length ≤ m) (hm : (m + sep.size) * n ≤ 140737488355328) (hn : n ≤ 140737488355328) :
    Calls Tryz.prog 50 #[.slice (some ⟨yb, 0, none⟩) n yc, .string sep] w fun e w' => e = .returned (.string (bs (Lib.join ls sep.data.toList))) ∧ Below w.heap.size w w' := by
  obtain ⟨hc, hcell⟩ := h.cells
  have hlen : (ls.map bs).length = n := by rw [List.length_map]; exact h.2
  have h1 := Tryz.strings_Join yb 0 yc (ls.map bs) sep w hcell h.lt.2 (by omega) (by omega) (by
    rw [map_bs_back]
    refine Nat.le_trans (join_len ls sep.data.toList m hl) ?_
    have e : sep.data.toList.length = sep.size := Array.length_toList
    rw [e, h.2]
    exact hm)
  rw [hlen, map_bs_back] at h1
  exact h1
end Go.Proofs.YtiaafgmjigbjlaaGreatDoor
/- Own text. The text of a bag. -/
namespace Go.Proofs.YtiaafgmjigbjlaaGreatDoor
open Go.RowKit
set_option linter.unusedVariables false
theorem wf64T (n : Int) (h : (Lit.int .i64 n).wf = true) : -9223372036854775808 ≤ n ∧ n ≤ 9223372036854775807 := by
  simp only [Lit.wf, IntKind.min, IntKind.max, IntKind.signed, IntKind.bits, Bool.and_eq_true, decide_eq_true_eq, if_true] at h
  omega
/-- the texts of a row's values. -/
def rowTs (vs : List V3) : List (List UInt8) := vs.map fun x => vt x.k x.n x.s
def rowT (vs : List V3) : List UInt8 := Lib.join (rowTs vs) [44]
theorem rowTs_take {vs : List V3} {k : Nat} {x : V3} (h : vs[k]? = some x) : rowTs (vs.take (k + 1)) = rowTs (vs.take k) ++ [vt x.k x.n x.s] := by
  obtain ⟨hk, rfl⟩ := List.getElem?_eq_some_iff.1 h
  unfold rowTs
  rw [List.take_succ_eq_append_getElem hk, List.map_append]
  rfl
theorem rowTs_le (vs : List V3) (hw : VsWf vs) : ∀ l ∈ rowTs vs, l.length ≤ 202 := by
  intro l hl
  obtain ⟨x, hx, rfl⟩ := List.mem_map.1 hl
  obtain ⟨h0, h1⟩ := wf64T x.n (hw x hx).2.1
  exact vt_len _ _ _ h0 h1
theorem join_snoc (ls : List (List UInt8)) (l sep : List UInt8) (h : ls ≠ []) : Lib.join (ls ++ [l]) sep = Lib.join ls sep ++ (sep ++ l) := by
  cases ls with
  | nil => exact absurd rfl h
  | cons x r =>
    rw [List.cons_append, Lib.join_cons, Lib.join_cons, List.append_assoc]
    congr 1
    simp [Lib.joinTail]
theorem rowT_len (vs : List V3) (hw : VsWf vs) : (rowT vs).length ≤ 203 * vs.length := by
  have := join_len (rowTs vs) [44] 202 (rowTs_le vs hw)
  simpa [rowT, rowTs] using this
/-- the text of one counted row. -/
def cntT (x : C2) : List UInt8 := Lib.itoa x.n ++ ([120, 32] ++ (rowT x.r ++ [10]))
def bagT (cs : List C2) : List UInt8 := cs.flatMap cntT
theorem bagT_take {cs : List C2} {k : Nat} {x : C2} (h : cs[k]? = some x) : bagT (cs.take (k + 1)) = bagT (cs.take k) ++ cntT x := by
  obtain ⟨hk, rfl⟩ := List.getElem?_eq_some_iff.1 h
  unfold bagT
  rw [List.take_succ_eq_append_getElem hk, List.flatMap_append]
  simp only [List.flatMap_cons, List.flatMap_nil, List.append_nil]
theorem cntT_len (x : C2) (hw : x.wf) (hl : x.r.length ≤ 12) : (cntT x).length ≤ 2500 := by
  obtain ⟨h0, h1⟩ := wf64T x.n hw.2
  have h2 := Lib.itoa_length_le x.n h0 h1
  have h3 := rowT_len x.r hw.1
  simp only [cntT, List.length_append, List.length_cons, List.length_nil]
  omega
theorem bagT_len (cs : List C2) (hw : CsWf cs) (hl : ∀ x ∈ cs, x.r.length ≤ 12) : (bagT cs).length ≤ 2500 * cs.length := by
  induction cs with
  | nil => simp [bagT]
  | cons x xs ih =>
    have h1 := ih (fun y hy => hw y (by simp [hy])) (fun y hy => hl y (by simp [hy]))
    have h2 := cntT_len x (hw x (by simp)) (hl x (by simp))
    unfold bagT at *
    rw [List.flatMap_cons, List.length_append, List.length_cons]
    omega
theorem okCs_len {W : Int} (h12 : W ≤ 12) : ∀ (cs : List C2) (p : Option C2), okCs W p cs = true → ∀ x ∈ cs, x.r.length ≤ 12
  | [], _, _, x, hx => by cases hx
  | y :: ys, p, h, x, hx => by
    simp only [okCs, Bool.and_eq_true] at h
    rcases List.mem_cons.1 hx with rfl | hx
    · have := h.1.1.1
      simp only [okRow, Bool.and_eq_true, decide_eq_true_eq] at this
      have := this.1
      omega
    · exact okCs_len h12 ys (some y) h.2 x hx
theorem okBag_parts {W : Int} {cs : List C2} (h : okBag W cs = true) : cs.length ≤ 400 ∧ ∀ x ∈ cs, x.r.length ≤ 12 := by
  simp only [okBag, Bool.and_eq_true, decide_eq_true_eq] at h
  exact ⟨h.1.2, okCs_len h.1.1.2 cs none h.2⟩
/-- the text of a bag; the empty text where it is none. -/
def bagText (W : Int) (cs : List C2) : List UInt8 := if okBag W cs = true then bagT cs else []
end Go.Proofs.YtiaafgmjigbjlaaGreatDoor
/- Own text. The contract of impl.rowText. -/
namespace Go.Proofs.YtiaafgmjigbjlaaGreatDoor
open Go.RowKit Go.ChangeShapes Go.WideShapes
set_option linter.unusedVariables false
set_option maxHeartbeats 2000000 in
set_option maxRecDepth 100000 in
theorem rowText_any (v : Value) (vs : List V3) (w : World) (hr : RowIs w v vs) (hw : VsWf vs) (hn : vs.length ≤ 1048576) (hE : Env w) :
    Calls Tryz.prog 29 #[v] w fun e w' => e = .returned (.string (bs (rowT vs))) ∧ Below w.heap.size w w' := by
  obtain ⟨i0, hi, hz0, hz1, hz2⟩ := info_parts Tryz.infoT
  obtain ⟨a, c, b, o, rfl, hl, hc, ha⟩ := hr.pick
  unfold maxLen at hc
  have HE : Hid (Env w) := hE
  clear hr hE
  have hT0 := TxtsAt.new (w := w) (N := w.heap.size) rfl (Nat.le_refl _)
  go_enter Tryz.func29, Tryz.ntmps29
  go_wp2
  go_loopw [3, 9] (fun y i wr => ∃ k yb yc : Nat, k ≤ vs.length ∧ i = .int .i64 k ∧ y = .slice (some ⟨yb, 0, none⟩) k yc ∧ TxtsAt wr w.heap.size yb yc k (rowTs (vs.take k)) ∧ Below w.heap.size w wr) (fun _ i _ => vs.length - (intOf i).toNat)
  case atStart => exact ⟨0, w.heap.size, 0, Nat.zero_le _, rfl, rfl, hT0, by go_grown⟩
  case round =>
    obtain ⟨k, yb, yc, hk, rfl, rfl, hT, hb⟩ := hrel
    have hzb := hb.size
    by_cases hlt : k < vs.length
    · obtain ⟨rfl, hblt, hL⟩ := ha k hlt
      obtain ⟨x, hx, c0, c1, c2, hbr⟩ := hL.at hblt hb hlt
      have hxw := hw x (List.mem_of_getElem? hx)
      obtain ⟨n0, n1⟩ := wf64T x.n hxw.2.1
      have HX : Hid (rowTs (vs.take (k + 1)) = rowTs (vs.take k) ++ [vt x.k x.n x.s]) := rowTs_take hx
      have hV := fun w2 (hb2 : Below w.heap.size w w2) => implVt_any x.k x.n x.s w2 hxw.2.2 n0 n1 (HE.out.below hb2)
      have hbx : Below wr.heap.size wr (wr.alloc (.cells #[.int .i64 x.k, .int .i64 x.n, .string x.s] 48)) := (Below.refl _ _).alloc (Nat.le_refl _) _
      have hbx2 : Below w.heap.size w (wr.alloc (.cells #[.int .i64 x.k, .int .i64 x.n, .string x.s] 48)) := hb.trans (hbx.mono hzb)
      clear ha hL hx hw hxw n0 n1
      go_wp2_with fail
      refine Calls.mono (hV _ hbx2) ?_
      rintro e w1 ⟨rfl, hb1⟩
      have bel1 : Below w.heap.size w w1 := hbx2.trans (hb1.mono hbx2.size)
      have hT1 : TxtsAt w1 w.heap.size yb yc k (rowTs (vs.take k)) := (hT.below hbx).below hb1
      have hz1' := bel1.size
      generalize vt x.k x.n x.s = l at *
      generalize rowTs (vs.take k) = ls at *
      have hnew := txt_new w1 l
      have hO1 := (hT1.alloc (.cells #[.string (bs l)] 9)).1
      clear hV hb1 hbx hbx2 hT c0 c1 c2
      go_wp2_with (at_builtin; refine wpList_append_own_at _ rfl _ _ 44 rfl w.heap.size 9 i0 _ 1 16 Tryz.underlying44 hi hz0 hz1 hz2 rfl (by decide) (.slice (some ⟨yb, 0, none⟩) k yc) k (strL ls) rfl hO1 ⟨w1.heap.size, 0, none⟩ 1 1 [.string (bs l)] rfl rfl hnew (by simp [Value.oneCell']) ?c3 ?c4 ?c5 ?_)
      case c3 => unfold maxLen; omega
      case c4 => omega
      case c5 => simp; omega
      intro v5 w5 hown5 hgr5 _ _
      obtain ⟨b5, c5, rfl, hT5⟩ := TxtsAt.push (w := w1) hT1.2 hown5
      have hlt1 := hT1.lt
      have bel5 : Below w.heap.size w w5 := (bel1.alloc hz1' _).grown hgr5 (by simp; omega) (fun q hq => by simp [Value.ownBlock] at hq; omega)
      rw [← HX.out] at hT5
      clear hown5 hgr5 hO1 hnew hT1
      go_wp2
      exact ⟨⟨k + 1, b5, c5, hlt, by simp, rfl, hT5, bel5⟩, by simp [intOf]; omega⟩
    · obtain rfl : k = vs.length := by omega
      rw [List.take_length] at hT
      have hJ := joinT_any w.heap.size yb yc vs.length (rowTs vs) ⟨#[44]⟩ wr 202 hT (rowTs_le vs hw) (by show (202 + 1) * vs.length ≤ _; omega) (by omega)
      clear ha hw
      go_wp2_with fail
      refine Calls.mono hJ ?_
      rintro e w1 ⟨rfl, hb1⟩
      have bel1 : Below w.heap.size w w1 := hb.trans (hb1.mono hzb)
      clear hJ hb1 hT
      go_wp2
      go_returns
      exact ⟨rfl, bel1⟩
end Go.Proofs.YtiaafgmjigbjlaaGreatDoor
/- Own text. (*strings.Builder).WriteString, and a block beside the builder that stays as it was. -/
namespace Go.Proofs.YtiaafgmjigbjlaaGreatDoor
open Go.RowKit
set_option linter.unusedVariables false
theorem copyCheck_g (B b : Nat) (bs : List Value) (w : World) (h : Lib.IsBuilder 56 5 B b bs w) :
    Calls Tryz.prog 47 #[.pointer (some ⟨b, 0, none⟩)] w fun e w' => e = .returned (.tuple #[]) ∧ Lib.BuilderAt 56 5 B b (.pointer (some ⟨b, 0, none⟩)) bs w' ∧ Below B w w' ∧ (∀ g, g ≠ b → w'.heap[g]? = w.heap[g]?) ∧ w'.cell? ⟨b, 1, none⟩ = w.cell? ⟨b, 1, none⟩ := by
  rcases h with h | h
  · refine (copyCheck_fresh b w h.cell0 h.shape h.frozen0).mono ?_
    rintro e w' ⟨rfl, rfl⟩
    exact ⟨rfl, h.used _, (Below.refl B w).setCell (p := ⟨b, 0, none⟩) h.1 _, fun g hg => Below.heap_setCell _ _ _ _ (by simpa using hg), World.cell?_setCell_other _ _ _ _ (by simp)⟩
  · refine (copyCheck_used b w h.cell0).mono ?_
    rintro e w' ⟨rfl, rfl⟩
    exact ⟨rfl, h, Below.refl B _, fun g _ => rfl, rfl⟩
set_option maxHeartbeats 2000000 in
set_option maxRecDepth 100000 in
theorem wstr_g (B b g : Nat) (bs : List Value) (s : ByteArray) (w : World) (h : Lib.IsBuilder 56 5 B b bs w) (hlen : bs.length + s.size ≤ 140737488355328) (hBw : B ≤ w.heap.size) (hgl : g < w.heap.size) (hgb : g ≠ b) (hgv : ∀ v, w.cell? ⟨b, 1, none⟩ = some v → v.ownBlock ≠ some g) :
    Calls Tryz.prog 27 #[.pointer (some ⟨b, 0, none⟩), .string s] w fun e w' => e = .returned (.tuple #[.int .i64 s.size, .nilIface]) ∧ Lib.BuilderAt 56 5 B b (.pointer (some ⟨b, 0, none⟩)) (bs ++ Lib.strCells s) w' ∧ Below B w w' ∧ w'.heap[g]? = w.heap[g]? := by
  obtain ⟨i0, hi, hz0, hz1, hz2⟩ := info_parts bldByte
  go_enter Tryz.func27, Tryz.ntmps27
  go_wp2_with fail
  refine (copyCheck_g B b bs _ h).mono ?_
  rintro e w1 ⟨rfl, h1, hb1, hg1, hc1⟩
  obtain ⟨hB, v, hbk, hown, hne⟩ := h1
  have c0 : w1.cell? ⟨b, 0, none⟩ = some (.pointer (some ⟨b, 0, none⟩)) := by rw [Lib.cell_of_heap hbk]; rfl
  have c1 : w1.cell? ⟨b, 1, none⟩ = some v := by rw [Lib.cell_of_heap hbk]; rfl
  have hgv' : v.ownBlock ≠ some g := hgv v (by rw [← hc1]; exact c1)
  have hz1w := hb1.size
  have HG1 : Hid (w1.heap[g]? = w.heap[g]?) := hg1 g hgb
  clear hg1 hc1
  go_wp2_with (at_builtin; refine Lib.wpList_append_own_string _ rfl _ _ 22 9 rfl B 5 i0 Tryz.underlying22 Tryz.underlying9 hi hz0 hz1 hz2 _ _ _ rfl hown s rfl ?c3 ?c4 ?c5 ?_)
  case c3 => unfold maxLen; omega
  case c4 => omega
  case c5 => have := hb1.size; omega
  intro v' w2 hown' hgrow _
  have hlt : b < w1.heap.size := by
    rcases Nat.lt_or_ge b w1.heap.size with h' | h'
    · exact h'
    · simp [Array.getElem?_eq_none h'] at hbk
  have hb2 : w2.heap[b]? = some (.cells #[.pointer (some ⟨b, 0, none⟩), v] 56 (0, 0)) := (hgrow.block b hlt (fun e => hne e.symm)).trans hbk
  have d0 : w2.cell? ⟨b, 0, none⟩ = some (.pointer (some ⟨b, 0, none⟩)) := by rw [Lib.cell_of_heap hb2]; rfl
  have d1 : w2.cell? ⟨b, 1, none⟩ = some v := by rw [Lib.cell_of_heap hb2]; rfl
  have f1 : w2.frozen? ⟨b, 1, none⟩ = false := Lib.frozen_of_heap hb2 1
  have hs : ∃ ao n' cap, v' = .slice ao n' cap := by
    rcases hown'.2 with ⟨hv, _⟩ | ⟨g, cap, cur, hv, _⟩ <;> exact ⟨_, _, _, hv⟩
  obtain ⟨ao, n', cap, rfl⟩ := hs
  go_wp2
  go_ret2
  exact ⟨rfl, Lib.BuilderAt.put (T := 56) (e := 5) hB hb2 (bs' := bs ++ Lib.strCells s) (by simpa [Lib.strCells_length] using hown') (by decide),
    (hb1.grown hgrow (by have := hb1.size; omega) (fun k hk => (hown.lt k hk).1)).setCell (p := ⟨b, 1, none⟩) hB _, (Below.heap_setCell _ _ _ _ (by simpa using hgb)).trans ((hgrow.block g (by omega) (fun e => hgv' e.symm)).trans HG1.out)⟩
end Go.Proofs.YtiaafgmjigbjlaaGreatDoor
/- Own text. The contract of impl.BagText. -/
namespace Go.Proofs.YtiaafgmjigbjlaaGreatDoor
open Go.RowKit Go.ChangeShapes Go.WideShapes
set_option linter.unusedVariables false
theorem builder_belowT {T e : TypeId} {B b : Nat} {p : Value} {bs : List Value} {w w' : World} (h : Lib.BuilderAt T e B b p bs w) (hb : Below w.heap.size w w') : Lib.BuilderAt T e B b p bs w' := by
  obtain ⟨hB, v, hbk, hown, hne⟩ := h
  have hlt : b < w.heap.size := by
    rcases Nat.lt_or_ge b w.heap.size with h' | h'
    · exact h'
    · simp [Array.getElem?_eq_none h'] at hbk
  refine ⟨hB, v, (hb.block b hlt).trans hbk, ?_, hne⟩
  refine ⟨hown.1, ?_⟩
  rcases hown.2 with hn | ⟨g, cap, cur, rfl, hg, hc, rest⟩
  · exact .inl hn
  · have hgl : g < w.heap.size := by
      rcases Nat.lt_or_ge g w.heap.size with h' | h'
      · exact h'
      · simp [Array.getElem?_eq_none h'] at hc
    exact .inr ⟨g, cap, cur, rfl, hg, (hb.block g hgl).trans hc, rest⟩
theorem isBuilder_belowT {T e : TypeId} {B b : Nat} {bs : List Value} {w w' : World} (h : Lib.IsBuilder T e B b bs w) (hb : Below w.heap.size w w') : Lib.IsBuilder T e B b bs w' :=
  h.elim (fun h => .inl (builder_belowT h hb)) (fun h => .inr (builder_belowT h hb))
/-- a counted row in a block of its own. -/
def Bx2 (w : World) (b : Nat) (u : Value) (n : Int) : Prop := w.cell? ⟨b, 0, none⟩ = some u ∧ w.cell? ⟨b, 1, none⟩ = some (.int .i64 n)
theorem Bx2.of_block {w w' : World} {b : Nat} {u : Value} {n : Int} (h : Bx2 w b u n) (hb : w'.heap[b]? = w.heap[b]?) : Bx2 w' b u n := by
  obtain ⟨h0, h1⟩ := h
  unfold World.cell? at h0 h1
  exact ⟨by unfold World.cell?; rw [hb]; exact h0, by unfold World.cell?; rw [hb]; exact h1⟩
theorem Bx2.keep {w w' : World} {b : Nat} {u : Value} {n : Int} (h : Bx2 w b u n) (hb : Below w.heap.size w w') : Bx2 w' b u n := h.of_block (hb.block b (World.block_lt_of_cell? w _ h.1))
set_option maxHeartbeats 2000000 in
set_option maxRecDepth 100000 in
theorem implBagText_any (W : Int) (v : Value) (cs : List C2) (w : World) (hw : CsWf cs) (hr : RowsIs w v cs) (hE : Env w) :
    Calls Tryz.prog 12 #[.agg #[.int .i64 W, v]] w fun e w' => e = .returned (.string (bs (bagText W cs))) ∧ Below w.heap.size w w' := by
  obtain ⟨r, hr0⟩ : ∃ r, Hid (bagText W cs = r) := ⟨_, rfl⟩
  rw [hr0.out]
  obtain ⟨ok, hok⟩ : ∃ ok, Hid (okBag W cs = ok) := ⟨_, rfl⟩
  have hok' := hok.out
  obtain ⟨a, c, b, o, rfl, hl, hc, ha⟩ := hr.pick
  have HE : Hid (Env w) := hE
  have hB0 := fun w2 (hb : Below w.heap.size w w2) => implBagOk_any W _ cs w2 hw (hr.below hb)
  unfold maxLen at hc
  clear hE
  go_enter Tryz.func12, Tryz.ntmps12
  go_wp2_with fail
  refine Calls.mono (hB0 _ ?hb) ?_
  case hb => repeat (first | (with_reducible exact Below.refl _ _) | (with_reducible refine Below.drew ?_) | (with_reducible refine Below.alloc ?_ ?hh _; case hh => first | (simp; done) | (simp; omega) | omega) | (with_reducible refine Below.setCell ?_ ?hh _; case hh => first | (simp; done) | (simp; omega) | omega) | refine bstep (by assumption) (by first | (simp; done) | (simp; omega) | omega) ?_)
  rintro e w1 ⟨rfl, hb1⟩
  rw [hok']
  clear hok' hB0
  have hz1 := hb1.size
  simp only [World.size_alloc] at hz1
  have q1 : w1.cell? ⟨w.heap.size, 1, none⟩ = some (.slice a cs.length c) := cell_later hb1 (by go_simp)
  have bel1 : Below w.heap.size w w1 := by repeat (first | (with_reducible exact Below.refl _ _) | (with_reducible refine Below.drew ?_) | (with_reducible refine Below.alloc ?_ ?hh _; case hh => first | (simp; done) | (simp; omega) | omega) | (with_reducible refine Below.setCell ?_ ?hh _; case hh => first | (simp; done) | (simp; omega) | omega) | refine bstep (by assumption) (by first | (simp; done) | (simp; omega) | omega) ?_)
  clear hb1
  cases ok with
  | false =>
    have hp : Hid (r = []) := by show _ = _; rw [← hr0.out]; unfold bagText; rw [hok.out]; rfl
    go_wp2_with fail
    go_returns
    exact ⟨by rw [hp.out]; rfl, bel1⟩
  | true =>
    have hp : Hid (r = bagT cs) := by show _ = _; rw [← hr0.out]; unfold bagText; rw [hok.out]; rfl
    obtain ⟨hl400, hl12⟩ := okBag_parts hok.out
    have hr1 := hr.below bel1
    have hlt1 : w.heap.size < w1.heap.size := by omega
    clear hr
    go_wp2
    go_loopw [12] (fun i wr => ∃ k : Nat, k ≤ cs.length ∧ i = .int .i64 k ∧ Below w1.heap.size w1 wr ∧ Lib.IsBuilder 56 5 w1.heap.size w1.heap.size (Lib.byteCells (bagT (cs.take k))) wr) (fun i _ => cs.length - (intOf i).toNat)
    case atStart =>
      refine ⟨0, Nat.zero_le _, rfl, by go_grown, .inl ⟨Nat.le_refl _, .slice none 0 0, ?_, ?_, by simp [Value.ownBlock]⟩⟩
      · exact heap_alloc_new w1 _
      · simpa [bagT, Lib.byteCells] using World.ownsRow_nil _ _ _ _
    case round =>
      obtain ⟨k, hk, rfl, hb, hB⟩ := hrel
      have hzb := hb.size
      have hsz : w1.heap.size < wr.heap.size := by rcases hB with h | h <;> exact h.lt
      by_cases hlt : k < cs.length
      · obtain ⟨rfl, hblt, hL⟩ := ha k hlt
        have hwr : Below w.heap.size w wr := bel1.trans (hb.mono bel1.size)
        obtain ⟨x, u, hx, c0, hR, c1, hbr⟩ := hL.at hblt hwr hlt
        have hxw := hw x (List.mem_of_getElem? hx)
        have hx12 := hl12 x (List.mem_of_getElem? hx)
        obtain ⟨n0, n1⟩ := wf64T x.n hxw.2
        have HX : Hid (bagT (cs.take (k + 1)) = bagT (cs.take k) ++ cntT x) := bagT_take hx
        have hcl := cntT_len x hxw hx12
        have hbl := bagT_len (cs.take k) (fun y hy => hw y (List.mem_of_mem_take hy)) (fun y hy => hl12 y (List.mem_of_mem_take hy))
        have hrl := rowT_len x.r hxw.1
        have hil := Lib.itoa_length_le x.n n0 n1
        have htk : (cs.take k).length ≤ 400 := by simp; omega
        have hD := fun w2 (hb2 : Below wr.heap.size wr w2) => implDec_env x.n w2 n0 n1 (HE.out.below (hwr.trans (hb2.mono hwr.size)))
        have hRT := fun w2 (hb2 : Below wr.heap.size wr w2) => rowText_any u x.r w2 (hR.below hb2) hxw.1 (by omega) (HE.out.below (hwr.trans (hb2.mono hwr.size)))
        obtain ⟨ua, ul, uc, rfl⟩ := hR.shape
        obtain ⟨t1, H1⟩ : ∃ t1, Hid (bs (Lib.itoa x.n) = t1) := ⟨bs (Lib.itoa x.n), show bs (Lib.itoa x.n) = bs (Lib.itoa x.n) from rfl⟩
        obtain ⟨t2, H2⟩ : ∃ t2, Hid (bs (rowT x.r) = t2) := ⟨bs (rowT x.r), show bs (rowT x.r) = bs (rowT x.r) from rfl⟩
        rw [H1.out] at hD
        rw [H2.out] at hRT
        have hs1 : t1.size ≤ 40 := by rw [← H1.out, bs_size]; omega
        have hs2 : t2.size ≤ 2500 := by rw [← H2.out, bs_size]; omega
        have hs3 : (t1 ++ (⟨#[120, 32]⟩ : ByteArray)).size ≤ 42 := by rw [ByteArray.size_append]; have : (⟨#[120, 32]⟩ : ByteArray).size = 2 := rfl; omega
        have hs4 : (t1 ++ (⟨#[120, 32]⟩ : ByteArray) ++ t2).size ≤ 2542 := by rw [ByteArray.size_append]; omega
        have HF : Hid (t1 ++ (⟨#[120, 32]⟩ : ByteArray) ++ t2 ++ (⟨#[10]⟩ : ByteArray) = bs (cntT x)) := by
          show _ = _
          rw [← H1.out, ← H2.out, show (⟨#[120, 32]⟩ : ByteArray) = bs [120, 32] from rfl, show (⟨#[10]⟩ : ByteArray) = bs [10] from rfl, bs_app, bs_app, bs_app]
          simp [cntT]
        have hl1 : (Lib.byteCells (bagT (cs.take k))).length + (t1 ++ (⟨#[120, 32]⟩ : ByteArray) ++ t2 ++ (⟨#[10]⟩ : ByteArray)).size ≤ 140737488355328 := by
          rw [HF.out, bs_size, Lib.byteCells_length]
          omega
        have HC : Hid (Lib.strCells (t1 ++ (⟨#[120, 32]⟩ : ByteArray) ++ t2 ++ (⟨#[10]⟩ : ByteArray)) = Lib.byteCells (cntT x)) := by
          show _ = _
          rw [HF.out, Lib.strCells_eq]
          rfl
        clear ha hL hx hw hxw hR n0 n1 hil hrl hcl hbl htk H1 H2 HF
        have hX2 : Bx2 (wr.alloc (.cells #[.slice ua ul uc, .int .i64 x.n] 39)) wr.heap.size (.slice ua ul uc) x.n := ⟨by go_simp, by go_simp⟩
        have hvb : ∀ v, wr.cell? ⟨w1.heap.size, 1, none⟩ = some v → v.ownBlock ≠ some wr.heap.size := by
          intro v hv e
          have hcase : ∀ p, Lib.BuilderAt 56 5 w1.heap.size w1.heap.size p (Lib.byteCells (bagT (cs.take k))) wr → False := by
            rintro p ⟨_, v', hbk, hown, _⟩
            rw [Lib.cell_of_heap hbk] at hv
            obtain rfl : v' = v := by simpa using hv
            have := (hown.lt _ e).2
            omega
          rcases hB with h | h
          · exact hcase _ h
          · exact hcase _ h
        go_wp2_with fail
        refine wp_region_held_drew (S := (fun w' => Bx2 w' wr.heap.size (.slice ua ul uc) x.n)) (by kernel_rfl) ?_ (fun hHeld => ?_)
        · exact hX2.keep (by repeat (first | (with_reducible exact Below.refl _ _) | (with_reducible refine Below.drew ?_) | (with_reducible refine Below.alloc ?_ ?hh _; case hh => first | (simp; done) | (simp; omega) | omega) | (with_reducible refine Below.setCell ?_ ?hh _; case hh => first | (simp; done) | (simp; omega) | omega) | refine bstep (by assumption) (by first | (simp; done) | (simp; omega) | omega) ?_))
        refine takeYes (i := 0) (d := 16) (v := ?_) rfl rfl (by kernel_rfl) (by kernel_rfl) (by kernel_rfl) (fun _ _ _ h => h) (by rfl) (by assumption) ?_ ?_
        rotate_left
        · intro w' hSw; obtain ⟨x0, x1⟩ := hSw; go_simp; (try rw [if_neg (by omega)]); try exact rfl
        try simp only [List.setIfInBounds_toArray, List.set_cons_zero, List.set_cons_succ]
        refine takeYes (i := 1) (d := 17) (v := ?_) rfl rfl (by kernel_rfl) (by kernel_rfl) (by kernel_rfl) (fun _ _ _ h => h) (by rfl) (by assumption) ?_ ?_
        rotate_left
        · intro w' hSw; obtain ⟨x0, x1⟩ := hSw; go_simp; (try rw [if_neg (by omega)]); try exact rfl
        try simp only [List.setIfInBounds_toArray, List.set_cons_zero, List.set_cons_succ]
        refine takeYes (i := 4) (d := 20) (v := ?_) rfl rfl (by kernel_rfl) (by kernel_rfl) (by kernel_rfl) (fun _ _ _ h => h) (by rfl) (by assumption) ?_ ?_
        rotate_left
        · intro w' hSw; obtain ⟨x0, x1⟩ := hSw; go_simp; (try rw [if_neg (by omega)]); try exact rfl
        try simp only [List.setIfInBounds_toArray, List.set_cons_zero, List.set_cons_succ]
        refine takeYes (i := 5) (d := 21) (v := ?_) rfl rfl (by kernel_rfl) (by kernel_rfl) (by kernel_rfl) (fun _ _ _ h => h) (by rfl) (by assumption) ?_ ?_
        rotate_left
        · intro w' hSw; obtain ⟨x0, x1⟩ := hSw; go_simp; (try rw [if_neg (by omega)]); try exact rfl
        try simp only [List.setIfInBounds_toArray, List.set_cons_zero, List.set_cons_succ]
        refine wpAnyH_ready (rs := [2]) (by kernel_rfl) (by simp) ?_
        refine AllReadyH.cons rfl (fun K hK => ?_) AllReadyH.nil
        go_simp
        go_at_call 28
        refine Calls.mono (hD _ (by repeat (first | (with_reducible exact Below.refl _ _) | (with_reducible refine Below.drew ?_) | (with_reducible refine Below.alloc ?_ ?hh _; case hh => first | (simp; done) | (simp; omega) | omega) | (with_reducible refine Below.setCell ?_ ?hh _; case hh => first | (simp; done) | (simp; omega) | omega) | refine bstep (by assumption) (by first | (simp; done) | (simp; omega) | omega) ?_))) ?_
        rintro e w2 ⟨rfl, hb2⟩
        have hz2 := hb2.size
        (try simp at hz2)
        try go_wp2_with fail
        refine hK.out _ _ ?_ (fun hHeld2 => ?_)
        · exact hX2.keep (by repeat (first | (with_reducible exact Below.refl _ _) | (with_reducible refine Below.drew ?_) | (with_reducible refine Below.alloc ?_ ?hh _; case hh => first | (simp; done) | (simp; omega) | omega) | (with_reducible refine Below.setCell ?_ ?hh _; case hh => first | (simp; done) | (simp; omega) | omega) | refine bstep (by assumption) (by first | (simp; done) | (simp; omega) | omega) ?_))
        clear hK
        refine takeYes (i := 3) (d := 19) (v := ?_) rfl rfl (by kernel_rfl) (by kernel_rfl) (by kernel_rfl) (fun _ _ _ h => h) (by rfl) (by assumption) ?_ ?_
        rotate_left
        · intro w' hSw; obtain ⟨x0, x1⟩ := hSw; go_simp; (try rw [if_neg (by omega)]); try exact rfl
        try simp only [List.setIfInBounds_toArray, List.set_cons_zero, List.set_cons_succ]
        refine wpAnyH_ready (rs := [6]) (by kernel_rfl) (by simp) ?_
        refine AllReadyH.cons rfl (fun K hK => ?_) AllReadyH.nil
        go_simp
        go_at_call 29
        refine Calls.mono (hRT _ (by repeat (first | (with_reducible exact Below.refl _ _) | (with_reducible refine Below.drew ?_) | (with_reducible refine Below.alloc ?_ ?hh _; case hh => first | (simp; done) | (simp; omega) | omega) | (with_reducible refine Below.setCell ?_ ?hh _; case hh => first | (simp; done) | (simp; omega) | omega) | refine bstep (by assumption) (by first | (simp; done) | (simp; omega) | omega) ?_))) ?_
        rintro e w3 ⟨rfl, hb3⟩
        have hz3 := hb3.size
        (try simp at hz3)
        try go_wp2_with fail
        refine hK.out _ _ ?_ (fun hHeld6 => ?_)
        · exact hX2.keep (by repeat (first | (with_reducible exact Below.refl _ _) | (with_reducible refine Below.drew ?_) | (with_reducible refine Below.alloc ?_ ?hh _; case hh => first | (simp; done) | (simp; omega) | omega) | (with_reducible refine Below.setCell ?_ ?hh _; case hh => first | (simp; done) | (simp; omega) | omega) | refine bstep (by assumption) (by first | (simp; done) | (simp; omega) | omega) ?_))
        clear hK
        refine takeYes (i := 7) (d := 23) (v := ?_) rfl rfl (by kernel_rfl) (by kernel_rfl) (by kernel_rfl) (fun _ _ _ h => h) (by rfl) (by assumption) ?_ ?_
        rotate_left
        · intro w' hSw; obtain ⟨x0, x1⟩ := hSw; go_simp; (try rw [if_neg (by omega)]); try exact rfl
        try simp only [List.setIfInBounds_toArray, List.set_cons_zero, List.set_cons_succ]
        refine takeYes (i := 8) (d := 24) (v := ?_) rfl rfl (by kernel_rfl) (by kernel_rfl) (by kernel_rfl) (fun _ _ _ h => h) (by rfl) (by assumption) ?_ ?_
        rotate_left
        · intro w' hSw; obtain ⟨x0, x1⟩ := hSw; go_simp; (try rw [if_neg (by omega)]); try exact rfl
        try simp only [List.setIfInBounds_toArray, List.set_cons_zero, List.set_cons_succ]
        refine wpAnyH_ready (rs := [9]) (by kernel_rfl) (by simp) ?_
        refine AllReadyH.cons rfl (fun K hK => ?_) AllReadyH.nil
        go_simp
        have hX3 := hX2.keep (w' := w3) (by repeat (first | (with_reducible exact Below.refl _ _) | (with_reducible refine Below.drew ?_) | (with_reducible refine Below.alloc ?_ ?hh _; case hh => first | (simp; done) | (simp; omega) | omega) | (with_reducible refine Below.setCell ?_ ?hh _; case hh => first | (simp; done) | (simp; omega) | omega) | refine bstep (by assumption) (by first | (simp; done) | (simp; omega) | omega) ?_))
        have belW : Below wr.heap.size wr w3 := (by repeat (first | (with_reducible exact Below.refl _ _) | (with_reducible refine Below.drew ?_) | (with_reducible refine Below.alloc ?_ ?hh _; case hh => first | (simp; done) | (simp; omega) | omega) | (with_reducible refine Below.setCell ?_ ?hh _; case hh => first | (simp; done) | (simp; omega) | omega) | refine bstep (by assumption) (by first | (simp; done) | (simp; omega) | omega) ?_))
        have hB3 := isBuilder_belowT hB (w' := w3) belW
        go_at_call 27
        refine Calls.mono (wstr_g w1.heap.size w1.heap.size wr.heap.size _ _ w3 hB3 hl1 (by omega) (by omega) (by omega) (fun v hv => by rw [(bcell belW).1 _ _ hsz] at hv; exact hvb v hv)) ?_
        rintro e w4 ⟨rfl, hB4, hb4, hg4⟩
        have hz4 := hb4.size
        try go_wp2_with fail
        refine hK.out _ _ ?_ (fun hHeld9 => ?_)
        · exact hX3.of_block hg4
        clear hK
        refine wpAnyH_done (by kernel_rfl) ?_ _
        go_wp2
        go_roundw
        case rel =>
          refine ⟨k + 1, hlt, by simp, hb.trans ((belW.mono hzb).trans hb4), .inr ?_⟩
          · rw [HX.out, Lib.byteCells_append, ← HC.out]
            exact hB4
        case measure => simp [intOf]; omega
      · clear ha hw
        obtain rfl : k = cs.length := by omega
        rw [List.take_length] at hB
        go_wp2_with fail
        refine Calls.mono (Tryz.Builder_String_any w1.heap.size w1.heap.size (bagT cs) wr hB hzb) ?_
        rintro e w2 ⟨rfl, hb2⟩
        have bel2 : Below w.heap.size w w2 := bel1.trans ((hb.trans hb2).mono bel1.size)
        clear hb2
        go_wp2
        go_returns
        exact ⟨by rw [hp.out]; rfl, bel2⟩
end Go.Proofs.YtiaafgmjigbjlaaGreatDoor
/- Own text. The contract of the model's ValueText. -/
namespace Go.Proofs.YtiaafgmjigbjlaaGreatDoor
open Go.RowKit
set_option linter.unusedVariables false
theorem quo_snoc (l : List UInt8) (c : UInt8) : quo (l ++ [c]) = quo l ++ (if c = 39 then [39, 39] else [c]) := by unfold quo; rw [List.flatMap_append]; simp
theorem take_byte (s : ByteArray) (k : Nat) (h : k < s.size) : s.data.toList.take (k + 1) = s.data.toList.take k ++ [s[k]] := by
  have h2 : k < s.data.toList.length := by rw [Array.length_toList]; exact h
  rw [List.take_succ_eq_append_getElem h2]
  rfl
theorem cut_byte (s : ByteArray) (k : Nat) (h : k < s.size) : s.extract k (k + 1) = bs [s[k]] := by
  have h2 : k < s.data.toList.length := by rw [Array.length_toList]; exact h
  apply ByteArray.ext
  apply Array.toList_inj.1
  rw [ByteArray.data_extract, Array.toList_extract, List.extract_eq_take_drop, List.drop_eq_getElem_cons h2, show k + 1 - k = 0 + 1 from by omega, List.take_succ_cons, List.take_zero]
  rfl
set_option maxHeartbeats 1000000 in
set_option maxRecDepth 100000 in
theorem l01Quote_any (s : ByteArray) (w : World) (hs : s.size ≤ 100) :
    Calls Tryz.prog 51 #[.string s] w fun e w' => e = .returned (.string (bs (39 :: (quo s.data.toList ++ [39])))) ∧ Below w.heap.size w w' := by
  have hl : s.data.toList.length = s.size := Array.length_toList
  go_enter Tryz.func51, Tryz.ntmps51
  go_wp2
  go_loopw [3, 4] (fun o i wr => ∃ (k : Nat) (x : ByteArray), k ≤ s.size ∧ i = .int .i64 k ∧ o = .string x ∧ x = bs (39 :: quo (s.data.toList.take k)) ∧ Below w.heap.size w wr) (fun _ i _ => s.size - (intOf i).toNat)
  case atStart => exact ⟨0, _, Nat.zero_le _, rfl, rfl, rfl, by go_grown⟩
  case round =>
    obtain ⟨k, x, hk, rfl, rfl, hx, hb⟩ := hrel
    have hq := quo_len (s.data.toList.take k)
    have hz : x.size ≤ 300 := by rw [hx, bs_size, List.length_cons]; simp at hq; omega
    have HX : Hid (x = bs (39 :: quo (s.data.toList.take k))) := hx
    clear hx hq
    by_cases hlt : k < s.size
    · have hcut := cut_byte s k hlt
      have HN : Hid (s.data.toList.take (k + 1) = s.data.toList.take k ++ [s[k]]) := take_byte s k hlt
      obtain ⟨y, HY⟩ : ∃ y, Hid (bs [s[k]] = y) := ⟨bs [s[k]], show bs [s[k]] = bs [s[k]] from rfl⟩
      rw [HY.out] at hcut
      have hy : y.size = 1 := by rw [← HY.out, bs_size]; rfl
      have hxy : (x ++ y).size ≤ 301 := by rw [ByteArray.size_append]; omega
      by_cases h39 : s[k] = 39
      · have HF : Hid ((x ++ y) ++ (⟨#[39]⟩ : ByteArray) = bs (39 :: quo (s.data.toList.take (k + 1)))) := by
          show _ = _
          rw [HN.out, quo_snoc, if_pos h39, HX.out, ← HY.out, h39, show (⟨#[39]⟩ : ByteArray) = bs [39] from rfl, bs_app, bs_app]
          simp
        go_wp2
        exact ⟨⟨k + 1, _, hlt, by simp, rfl, HF.out, hb⟩, by simp [intOf]; omega⟩
      · have h39' : ((s[k].toNat : Int) == 39) = false := by
          rw [beq_eq_false_iff_ne]
          intro e
          exact h39 (UInt8.toNat_inj.1 (by have : (39 : UInt8).toNat = 39 := rfl; omega))
        have HF : Hid (x ++ y = bs (39 :: quo (s.data.toList.take (k + 1)))) := by
          show _ = _
          rw [HN.out, quo_snoc, if_neg h39, HX.out, ← HY.out, bs_app]
          simp
        go_wp2
        exact ⟨⟨k + 1, _, hlt, by simp, rfl, HF.out, hb⟩, by simp [intOf]; omega⟩
    · obtain rfl : k = s.size := by omega
      have HF : Hid (x ++ (⟨#[39]⟩ : ByteArray) = bs (39 :: (quo s.data.toList ++ [39]))) := by
        show _ = _
        rw [HX.out, show (⟨#[39]⟩ : ByteArray) = bs [39] from rfl, bs_app, ← hl, List.take_length]
        simp
      go_wp2
      go_returns
      exact ⟨by rw [← HF.out]; rfl, hb⟩
set_option maxHeartbeats 1000000 in
set_option maxRecDepth 100000 in
theorem specVt_any (k n : Int) (s : ByteArray) (w : World) (hs : s.size ≤ maxLen) (h0 : -9223372036854775808 ≤ n) (h1 : n ≤ 9223372036854775807) :
    Calls Tryz.prog 32 #[(.agg #[.int .i64 k, .int .i64 n, .string s])] w fun e w' => e = .returned (.string (bs (vt k n s))) ∧ Below w.heap.size w w' := by
  obtain ⟨r, hr⟩ : ∃ r, Hid (vt k n s = r) := ⟨_, rfl⟩
  rw [hr.out]
  obtain ⟨ok, hok⟩ : ∃ ok, Hid (okB k n s = ok) := ⟨_, rfl⟩
  have hok' := hok.out
  go_enter Tryz.func32, Tryz.ntmps32
  go_wp2_with fail
  refine (specValueOk_any _ _ _ _ hs).mono ?_
  rintro e w1 ⟨rfl, hb1⟩
  rw [hok']
  clear hok'
  have hz1 := hb1.size
  simp only [World.size_alloc] at hz1
  have hy1 : w.heap.size < w1.heap.size := by omega
  have qa : w1.cell? ⟨w.heap.size, 0, none⟩ = some (.int .i64 k) := cell_later hb1 (by go_simp)
  have qb : w1.cell? ⟨w.heap.size, 1, none⟩ = some (.int .i64 n) := cell_later hb1 (by go_simp)
  have qc : w1.cell? ⟨w.heap.size, 2, none⟩ = some (.string s) := cell_later hb1 (by go_simp)
  have bel1 : Below w.heap.size w w1 := by repeat (first | (with_reducible exact Below.refl _ _) | (with_reducible refine Below.drew ?_) | (with_reducible refine Below.alloc ?_ ?hh _; case hh => first | (simp; done) | (simp; omega) | omega) | (with_reducible refine Below.setCell ?_ ?hh _; case hh => first | (simp; done) | (simp; omega) | omega) | refine bstep (by assumption) (by first | (simp; done) | (simp; omega) | omega) ?_)
  clear hb1
  cases ok with
  | false =>
    have hp : Hid (r = []) := by show _ = _; rw [← hr.out]; exact vt_no k n s hok.out
    go_wp2_with fail
    go_returns
    exact ⟨by rw [hp.out]; rfl, bel1⟩
  | true =>
    rcases okB_kz k n s hok.out with rfl | rfl | rfl | rfl
    · have hp : Hid (r = [110, 117, 108, 108]) := by show _ = _; rw [← hr.out]; exact vt_0 n s hok.out
      go_wp2_with fail
      go_returns
      exact ⟨by rw [hp.out]; rfl, bel1⟩
    · have hp : Hid (r = Lib.itoa n) := by show _ = _; rw [← hr.out]; exact vt_1 n s hok.out
      go_wp2_with fail
      refine (specDec_any n _ h0 h1).mono ?_
      rintro e w2 ⟨rfl, rfl⟩
      go_wp2_with fail
      go_returns
      exact ⟨by rw [hp.out]; rfl, bel1⟩
    · have hp : Hid (r = if n = 1 then [116, 114, 117, 101] else [102, 97, 108, 115, 101]) := by show _ = _; rw [← hr.out]; exact vt_2 n s hok.out
      by_cases hn : n = 1
      · subst hn
        go_wp2_with fail
        go_returns
        exact ⟨by rw [hp.out]; rfl, bel1⟩
      · have hn' : (n == 1) = false := by simpa using hn
        go_wp2_with fail
        go_returns
        exact ⟨by rw [hp.out, if_neg hn]; rfl, bel1⟩
    · have hp : Hid (r = 39 :: (quo s.data.toList ++ [39])) := by show _ = _; rw [← hr.out]; exact vt_3 n s hok.out
      go_wp2_with fail
      refine (l01Quote_any s _ (okB_3z n s hok.out)).mono ?_
      rintro e w2 ⟨rfl, hb2⟩
      have bel2 : Below w.heap.size w w2 := bel1.trans (hb2.mono bel1.size)
      rw [← hp.out]
      clear hb2
      go_wp2_with fail
      go_returns
      exact ⟨rfl, bel2⟩
end Go.Proofs.YtiaafgmjigbjlaaGreatDoor
/- Own text. The contract of spec.BagText. -/
namespace Go.Proofs.YtiaafgmjigbjlaaGreatDoor
open Go.RowKit
set_option linter.unusedVariables false
theorem rowT_one (x : V3) : rowT [x] = vt x.k x.n x.s := by simp [rowT, rowTs, Lib.join_one]
theorem rowT_step {vs : List V3} {m : Nat} {x : V3} (h : vs[m]? = some x) (h0 : 0 < m) : rowT (vs.take (m + 1)) = rowT (vs.take m) ++ ([44] ++ vt x.k x.n x.s) := by
  unfold rowT
  rw [rowTs_take h, join_snoc]
  intro e
  have h1 := congrArg List.length e
  have h2 := (List.getElem?_eq_some_iff.1 h).1
  simp [rowTs] at h1
  rcases h1 with h1 | h1
  · omega
  · rw [h1] at h2; simp at h2
set_option maxHeartbeats 4000000 in
set_option maxRecDepth 100000 in
theorem specBagText_any (W : Int) (v : Value) (cs : List C2) (w : World) (hw : CsWf cs) (hr : RowsIs w v cs) :
    Calls Tryz.prog 13 #[.agg #[.int .i64 W, v]] w fun e w' => e = .returned (.string (bs (bagText W cs))) ∧ Below w.heap.size w w' := by
  obtain ⟨r, hr0⟩ : ∃ r, Hid (bagText W cs = r) := ⟨_, rfl⟩
  rw [hr0.out]
  obtain ⟨ok, hok⟩ : ∃ ok, Hid (okBag W cs = ok) := ⟨_, rfl⟩
  have hok' := hok.out
  obtain ⟨a, c, b, o, rfl, hl, hc, ha⟩ := hr.pick
  have hB0 := fun w2 (hb : Below w.heap.size w w2) => specBagOk_any W _ cs w2 hw (hr.below hb)
  rw [hok'] at hB0
  unfold maxLen at hc
  clear hok'
  go_enter Tryz.func13, Tryz.ntmps13
  go_wp2
  go_loopw [3, 4] (fun ou i wr => ∃ (k : Nat) (x : ByteArray), k ≤ cs.length ∧ i = .int .i64 k ∧ ou = .string x ∧ x = bs (bagT (cs.take k)) ∧ (0 < k → okBag W cs = true) ∧ wr.cell? ⟨w.heap.size, 0, none⟩ = some (.int .i64 W) ∧ wr.cell? ⟨w.heap.size, 1, none⟩ = some (.slice a cs.length c) ∧ Below w.heap.size w wr) (fun _ i _ => cs.length - (intOf i).toNat)
  case atStart => exact ⟨0, _, Nat.zero_le _, rfl, rfl, rfl, fun h => absurd h (by omega), by go_simp, by go_simp, by go_grown⟩
  case round =>
    obtain ⟨k, x, hk, rfl, rfl, hx, hkok, b0, b1, hb⟩ := hrel
    have HX : Hid (x = bs (bagT (cs.take k))) := hx
    have HK : Hid (0 < k → okBag W cs = true) := hkok
    clear hx hkok
    by_cases hlt : k < cs.length
    · have hlw : w.heap.size < wr.heap.size := World.block_lt_of_cell? wr ⟨w.heap.size, 0, none⟩ b0
      go_wp2_with fail
      refine Calls.mono (hB0 _ ?hb) ?_
      case hb => exact hb
      rintro e w1 ⟨rfl, hb1⟩
      have d0 : w1.cell? ⟨w.heap.size, 0, none⟩ = some (.int .i64 W) := cell_later hb1 b0
      have d1 : w1.cell? ⟨w.heap.size, 1, none⟩ = some (.slice a cs.length c) := cell_later hb1 b1
      have bel1 : Below w.heap.size w w1 := hb.trans (hb1.mono hb.size)
      have hl1 := hb1.size
      clear hb1 b0 b1
      cases ok with
      | false =>
        have hk0 : k = 0 := by
          rcases Nat.eq_zero_or_pos k with h | h
          · exact h
          · have := HK.out h; rw [hok.out] at this; cases this
        subst hk0
        have hp : Hid (bs r = x) := by show _ = _; rw [HX.out, ← hr0.out]; unfold bagText; rw [hok.out]; rfl
        go_wp2_with fail
        go_returns
        exact ⟨by rw [hp.out]; rfl, bel1⟩
      | true =>
        obtain ⟨hl400, hl12⟩ := okBag_parts hok.out
        obtain ⟨rfl, hblt, hL⟩ := ha k hlt
        obtain ⟨y, u, hy, c0, hR, c1, hbr⟩ := hL.at hblt bel1 hlt
        have hyw := hw y (List.mem_of_getElem? hy)
        have hy12 := hl12 y (List.mem_of_getElem? hy)
        obtain ⟨n0, n1⟩ := wf64T y.n hyw.2
        have HY : Hid (bagT (cs.take (k + 1)) = bagT (cs.take k) ++ cntT y) := bagT_take hy
        have hbl := bagT_len (cs.take k) (fun z hz => hw z (List.mem_of_mem_take hz)) (fun z hz => hl12 z (List.mem_of_mem_take hz))
        have htk : (cs.take k).length ≤ 400 := by simp; omega
        have hxs : x.size ≤ 1000000 := by rw [HX.out, bs_size]; omega
        have hil := Lib.itoa_length_le y.n n0 n1
        have hD := fun w2 => specDec_any y.n w2 n0 n1
        obtain ⟨t1, H1⟩ : ∃ t1, Hid (bs (Lib.itoa y.n) = t1) := ⟨bs (Lib.itoa y.n), show bs (Lib.itoa y.n) = bs (Lib.itoa y.n) from rfl⟩
        have hD : ∀ w2, Calls Tryz.prog 31 #[.int .i64 y.n] w2 fun e w' => e = .returned (.string t1) ∧ w' = w2 := by
          intro w2
          have := hD w2
          rw [← H1.out]
          exact this
        have hs1 : t1.size ≤ 40 := by rw [← H1.out, bs_size]; omega
        have hs3 : (x ++ t1).size ≤ 1000040 := by rw [ByteArray.size_append]; omega
        obtain ⟨pr, HP⟩ : ∃ pr, Hid (x ++ t1 ++ (⟨#[120, 32]⟩ : ByteArray) = pr) := ⟨x ++ t1 ++ (⟨#[120, 32]⟩ : ByteArray), show x ++ t1 ++ (⟨#[120, 32]⟩ : ByteArray) = x ++ t1 ++ (⟨#[120, 32]⟩ : ByteArray) from rfl⟩
        have hps : pr.size ≤ 1000042 := by rw [← HP.out, ByteArray.size_append]; have : (⟨#[120, 32]⟩ : ByteArray).size = 2 := rfl; omega
        have HQ : Hid (pr = bs (bagT (cs.take k) ++ (Lib.itoa y.n ++ [120, 32]))) := by
          show _ = _
          rw [← HP.out, HX.out, ← H1.out, show (⟨#[120, 32]⟩ : ByteArray) = bs [120, 32] from rfl, bs_app, bs_app]
          simp
        obtain ⟨ua, uc, ub, uo, rfl, ul, hul, hua⟩ := hR.pick
        unfold maxLen at hul
        have hpr := HP.out
        have hwv := hyw.1
        clear ha hL hy hyw n0 n1 hbl htk H1 hil hB0 hr hR
        go_wp2_with fail
        refine Calls.mono (hD _) ?_
        rintro e w2 ⟨rfl, rfl⟩
        clear hD
        go_wp2_with fail
        try rw [hpr]
        clear hpr HP hs1 hs3 hxs
        obtain ⟨wi, hwi⟩ : ∃ wi, wi = w2 := ⟨_, rfl⟩
        subst hwi
        go_loopw [3, 5] (fun ou j wr2 => ∃ (m : Nat) (z : ByteArray), m ≤ y.r.length ∧ j = .int .i64 m ∧ ou = .string z ∧ z = pr ++ bs (rowT (y.r.take m)) ∧ Below wi.heap.size wi wr2) (fun _ j _ => y.r.length - (intOf j).toNat)
        case atStart => exact ⟨0, pr, Nat.zero_le _, rfl, rfl, by simp [rowT, rowTs, Lib.join_nil]; exact (ByteArray.append_empty).symm, Below.refl _ _⟩
        case round =>
          obtain ⟨m, z, hm, rfl, rfl, hz, hb2⟩ := hrel
          have HZ : Hid (z = pr ++ bs (rowT (y.r.take m))) := hz
          have hrl := rowT_len (y.r.take m) (fun q hq => hwv q (List.mem_of_mem_take hq))
          have htl : (y.r.take m).length ≤ 12 := by simp; omega
          have hzs : z.size ≤ 1003000 := by rw [HZ.out, ByteArray.size_append, bs_size]; omega
          have hz2 := hb2.size
          have e0 : wr.cell? ⟨w.heap.size, 1, none⟩ = some (.slice (some ⟨b, o, none⟩) cs.length c) := ((bcell hb2).1 _ _ (by omega)).trans d1
          have e1 : wr.cell? ⟨b, o + k * 2, none⟩ = some (.slice ua y.r.length uc) := ((bcell hb2).1 _ _ hbr).trans c0
          clear hz hrl htl
          by_cases hlt2 : m < y.r.length
          · obtain ⟨rfl, hublt, huL⟩ := hua m hlt2
            obtain ⟨q, hq, q0, q1, q2, hqbr⟩ := huL.at hublt hb2 hlt2
            have hqw := hwv q (List.mem_of_getElem? hq)
            obtain ⟨m0, m1⟩ := wf64T q.n hqw.2.1
            have hV := fun w3 => specVt_any q.k q.n q.s w3 hqw.2.2 m0 m1
            have hvl := vt_len q.k q.n q.s m0 m1
            have HT : Hid (0 < m → rowT (y.r.take (m + 1)) = rowT (y.r.take m) ++ ([44] ++ vt q.k q.n q.s)) := fun h => rowT_step hq h
            have HT0 : Hid (m = 0 → rowT (y.r.take (m + 1)) = vt q.k q.n q.s) := by
              rintro rfl
              have e : y.r.take (0 + 1) = [q] := by
                obtain ⟨h1, h2⟩ := List.getElem?_eq_some_iff.1 hq
                rw [List.take_succ_eq_append_getElem h1, h2]
                rfl
              rw [e, rowT_one]
            obtain ⟨t3, H3⟩ : ∃ t3, Hid (bs (vt q.k q.n q.s) = t3) := ⟨bs (vt q.k q.n q.s), show bs (vt q.k q.n q.s) = bs (vt q.k q.n q.s) from rfl⟩
            rw [H3.out] at hV
            have hs3 : t3.size ≤ 202 := by rw [← H3.out, bs_size]; omega
            clear huL hq hqw m0 m1 hvl hwv
            by_cases hm0 : m = 0
            · subst hm0
              simp only [Nat.zero_mul, Nat.add_zero] at q0 q1 q2
              have HF : Hid (z ++ t3 = pr ++ bs (rowT (y.r.take (0 + 1)))) := by
                show _ = _
                rw [HT0.out rfl, HZ.out, ← H3.out]
                simp [rowT, rowTs, Lib.join_nil]
                rw [show bs [] = ByteArray.empty from rfl, ByteArray.append_empty]
              go_wp2_with fail
              refine Calls.mono (hV _) ?_
              rintro e w4 ⟨rfl, hb4⟩
              have bel4 : Below wi.heap.size wi w4 := hb2.trans (hb4.mono hz2)
              clear hV hb4 e0 e1 q0 q1 q2
              go_wp2_with fail
              exact ⟨⟨0 + 1, _, hlt2, by simp, rfl, HF.out, bel4⟩, by simp [intOf]; omega⟩
            · have hmp : (0 : Int) < (m : Int) := by omega
              have hzc : (z ++ (⟨#[44]⟩ : ByteArray)).size ≤ 1003001 := by rw [ByteArray.size_append]; have : (⟨#[44]⟩ : ByteArray).size = 1 := rfl; omega
              have HF : Hid ((z ++ (⟨#[44]⟩ : ByteArray)) ++ t3 = pr ++ bs (rowT (y.r.take (m + 1)))) := by
                show _ = _
                rw [HT.out (by omega), HZ.out, ← H3.out, show (⟨#[44]⟩ : ByteArray) = bs [44] from rfl, ← bs_app, ← bs_app, ByteArray.append_assoc, ByteArray.append_assoc]
              go_wp2_with fail
              refine Calls.mono (hV _) ?_
              rintro e w4 ⟨rfl, hb4⟩
              have bel4 : Below wi.heap.size wi w4 := hb2.trans (hb4.mono hz2)
              clear hV hb4 e0 e1 q0 q1 q2
              go_wp2_with fail
              exact ⟨⟨m + 1, _, hlt2, by simp, rfl, HF.out, bel4⟩, by simp [intOf]; omega⟩
          · obtain rfl : m = y.r.length := by omega
            have HF : Hid (z ++ (⟨#[10]⟩ : ByteArray) = bs (bagT (cs.take (k + 1)))) := by
              show _ = _
              rw [HY.out, HZ.out, HQ.out, List.take_length, show (⟨#[10]⟩ : ByteArray) = bs [10] from rfl, bs_app, bs_app]
              simp [cntT]
            have f0 : wr.cell? ⟨w.heap.size, 0, none⟩ = some (.int .i64 W) := ((bcell hb2).1 _ _ (by omega)).trans d0
            have belE : Below w.heap.size w wr := bel1.trans (hb2.mono bel1.size)
            clear hua hb2 hwv
            go_wp2_with fail
            exact ⟨⟨k + 1, _, hlt, by simp, rfl, HF.out, fun _ => hok.out, f0, e0, belE⟩, by simp [intOf]; omega⟩
    · obtain rfl : k = cs.length := by omega
      have hp : Hid (bs r = x) := by
        show _ = _
        rw [HX.out, ← hr0.out, List.take_length]
        unfold bagText
        by_cases h : okBag W cs = true
        · rw [if_pos h]
        · rw [if_neg h]
          have h0 : cs.length = 0 := by
            rcases Nat.eq_zero_or_pos cs.length with h' | h'
            · exact h'
            · exact absurd (HK.out h') h
          rw [List.length_eq_zero_iff.1 h0]
          rfl
      clear ha hB0 hr hw
      go_wp2_with fail
      go_returns
      exact ⟨by rw [hp.out]; rfl, hb⟩
end Go.Proofs.YtiaafgmjigbjlaaGreatDoor
/- Own text. The contract of big. (Made out of RkT.) -/
namespace Go.Proofs.YtiaafgmjigbjlaaGreatDoor
open Go.RowKit
set_option linter.unusedVariables false
set_option maxHeartbeats 2000000 in
theorem big_any (a : Option Addr) (l c : Nat) (w : World) (hl : l ≤ 4611686018427387904) : Calls Tryz.prog 4 #[.slice a l c] w fun e w' => e = .returned (.bool (decide ((1048576 : Int) < l))) ∧ w' = w := by
  go_enter Tryz.func4, Tryz.ntmps4
  go_wp2
  go_returns
  exact ⟨rfl, rfl⟩
end Go.Proofs.YtiaafgmjigbjlaaGreatDoor
/- Own text. The walk of FnBagBytes. -/
namespace Go.Proofs.YtiaafgmjigbjlaaGreatDoor.fnBagBytes
open Go.RowKit Go.Deep
set_option linter.unusedVariables false
/-- block b is a variable that has a bag. -/
structure VB (w : World) (b : Nat) (W : Int) (u : Value) (cs : List C2) : Prop where
  lt : b < w.heap.size
  c0 : w.cell? ⟨b, 0, none⟩ = some (.int .i64 W)
  c1 : w.cell? ⟨b, 1, none⟩ = some u
  is : RowsIs w u cs
theorem VB.below {w w' : World} {b : Nat} {W : Int} {u : Value} {cs : List C2} (h : VB w b W u cs) (hb : Below w.heap.size w w') : VB w' b W u cs :=
  ⟨Nat.lt_of_lt_of_le h.lt hb.size, (cell_blk (hb.block b h.lt)).trans h.c0, (cell_blk (hb.block b h.lt)).trans h.c1, h.is.below hb⟩
theorem VB.alloc {w : World} {b : Nat} {W : Int} {u : Value} {cs : List C2} (h : VB w b W u cs) (o : Obj) : VB (w.alloc o) b W u cs := h.below ((Below.refl _ _).alloc (Nat.le_refl _) _)
theorem VB.new (w : World) (W : Int) (u : Value) (cs : List C2) (h : RowsIs w u cs) : VB (w.alloc (.cells #[.int .i64 W, u] 26)) w.heap.size W u cs :=
  ⟨by simp, by simp, by simp, h.below ((Below.refl _ _).alloc (Nat.le_refl _) _)⟩
set_option maxHeartbeats 60000000 in
set_option maxRecDepth 100000 in
theorem walk_small (a : Option Addr) (l c : Nat) (w : World) (hB : BytesB w w.heap.size (.slice a l c) l) (hE : Env w) :
    Calls Tryz.prog 3 #[.slice a l c] w fun x w' => x = .returned (.bool true) ∧ Below w.heap.size w w' := by
  have hl : l ≤ 1048576 := by obtain ⟨_, _, _, _, h, _⟩ := hB; exact h
  have hd : decide ((1048576 : Int) < l) = false := by simp; omega
  go_enter Tryz.func3, Tryz.ntmps3
  go_wp2_with fail
  refine (big_any a l c _ (by omega)).mono ?_
  rintro x w ⟨rfl, rfl⟩
  rw [hd]
  clear hd
  go_wp2_with fail
  have hbw : Below w.heap.size w w := Below.refl _ _
  have hzw := hbw.size
  refine (drawPutBag_any _ l _ hB).mono ?_
  rintro x w1 ⟨⟨W, u, cs, us, G, rfl, hJ, hB1⟩, hb1⟩
  have hz := hb1.size
  (try simp at hz)
  replace hbw : Below w.heap.size w w1 := hbw.trans (hb1.mono hzw)
  replace hzw := hbw.size
  obtain ⟨au, cu, rfl⟩ := hB1.shape
  obtain ⟨F1, hF1, _⟩ := hB1.rowsF
  have isA := hF1.is
  clear hF1 hB1
  clear hb1 hz
  have hA := VB.new w1 W (.slice au cs.length cu) cs isA
  replace hbw : Below w.heap.size w (w1.alloc (.cells #[.int .i64 W, (.slice au cs.length cu)] 26)) := hbw.trans ((Below.refl _ _).alloc hzw _)
  replace hzw := hbw.size
  have hwf := bgj_wf hJ
  have hnum : ∀ c ∈ cs, (-9223372036854775808 ≤ c.n ∧ c.n ≤ 9223372036854775807) ∧ ∀ x ∈ c.r, NumOk x := fun c hc => ⟨by have := hJ.num c hc; omega, fun x hx => by obtain ⟨_, _, n0, n1, _⟩ := (hJ.row c hc).2 x hx; exact ⟨n0, n1⟩⟩
  have hps : (putB W cs).size ≤ 1048576 := by have h1 := putB_le (W := W) (cs := cs); have h2 := hJ.len; omega
  clear hJ
  go_wp2_with fail
  refine (implPutBag_any W (.slice au cs.length cu) cs _ hwf hA.is).mono ?_
  rintro x w2 ⟨rfl, hb2⟩
  have hz := hb2.size
  (try simp at hz)
  replace hA := hA.below hb2
  replace hbw : Below w.heap.size w w2 := hbw.trans (hb2.mono hzw)
  replace hzw := hbw.size
  clear hb2 hz
  go_wp2_with fail
  refine (drawGetBag_any _ l _ (hB.up hbw hzw)).mono ?_
  rintro x w3 ⟨⟨t, rfl, ht⟩, hb3⟩
  have hz := hb3.size
  (try simp at hz)
  replace hA := hA.below hb3
  replace hbw : Below w.heap.size w w3 := hbw.trans (hb3.mono hzw)
  replace hzw := hbw.size
  clear hb3 hz
  go_wp2_with fail
  refine (implGetBag_any t _ ht).mono ?_
  rintro x w4 ⟨⟨u4, us4, G4, rfl, hB4⟩, hb4⟩
  have hz := hb4.size
  (try simp at hz)
  replace hA := hA.below hb4
  replace hbw : Below w.heap.size w w4 := hbw.trans (hb4.mono hzw)
  replace hzw := hbw.size
  obtain ⟨gx, hx, rfl⟩ := hB4.shape
  obtain ⟨F4, hF4, _⟩ := hB4.rowsF
  have isX := hF4.is
  clear hF4 hB4
  clear hb4 hz
  have hX := VB.new w4 (aW t) (.slice gx (aC t).length hx) (aC t) isX
  replace hA := hA.alloc (.cells #[.int .i64 (aW t), (.slice gx (aC t).length hx)] 26)
  replace hbw : Below w.heap.size w (w4.alloc (.cells #[.int .i64 (aW t), (.slice gx (aC t).length hx)] 26)) := hbw.trans ((Below.refl _ _).alloc hzw _)
  replace hzw := hbw.size
  go_wp2_with fail
  refine (specGetBag_any t _ ht).mono ?_
  rintro x w5 ⟨⟨u5, us5, G5, rfl, hB5⟩, hb5⟩
  have hz := hb5.size
  (try simp at hz)
  replace hA := hA.below hb5
  replace hX := hX.below hb5
  replace hbw : Below w.heap.size w w5 := hbw.trans (hb5.mono hzw)
  replace hzw := hbw.size
  obtain ⟨gy, hy, rfl⟩ := hB5.shape
  obtain ⟨F5, hF5, _⟩ := hB5.rowsF
  have isY := hF5.is
  clear hF5 hB5
  clear hb5 hz
  have hY := VB.new w5 (aW t) (.slice gy (aC t).length hy) (aC t) isY
  replace hA := hA.alloc (.cells #[.int .i64 (aW t), (.slice gy (aC t).length hy)] 26)
  replace hX := hX.alloc (.cells #[.int .i64 (aW t), (.slice gy (aC t).length hy)] 26)
  replace hbw : Below w.heap.size w (w5.alloc (.cells #[.int .i64 (aW t), (.slice gy (aC t).length hy)] 26)) := hbw.trans ((Below.refl _ _).alloc hzw _)
  replace hzw := hbw.size
  go_wp2_with fail
  clear hB
  have hE5 := hE.below hbw
  clear hE
  obtain ⟨bA, ebA⟩ : ∃ b, b = w1.heap.size := ⟨_, rfl⟩
  obtain ⟨bX, ebX⟩ : ∃ b, b = w4.heap.size := ⟨_, rfl⟩
  obtain ⟨bY, ebY⟩ : ∃ b, b = w5.heap.size := ⟨_, rfl⟩
  generalize w5.alloc (.cells #[.int .i64 (aW t), (.slice gy (aC t).length hy)] 26) = wD at hA hX hY hbw hzw hE5 ⊢
  rw [← ebA, ← ebX, ← ebY]
  rw [← ebA] at hA
  rw [← ebX] at hX
  rw [← ebY] at hY
  clear ebA ebX ebY
  obtain ⟨wa, Ha⟩ := ans_wf t
  have HG : Hid (aB t = true → putB (aW t) (aC t) = t) := bag_again
  have HO : Hid (okBag W cs = true → 0 < (putB W cs).size ∧ aW (putB W cs) = W ∧ aC (putB W cs) = cs ∧ aB (putB W cs) = true) := fun h => bag_back h hnum
  have HN : Hid (okBag W cs = false → putB W cs = ⟨#[]⟩) := putB_none
  clear hnum Ha
  have IG : Hid (∀ w, Calls Tryz.prog 8 #[.string (putB W cs)] w fun e w' => (∃ u us G, e = .returned (.tuple #[.agg #[.int .i64 (aW (putB W cs)), u], .bool (aB (putB W cs))]) ∧ BagOwn w' w.heap.size u (aC (putB W cs)) us G) ∧ Below w.heap.size w w') := fun w => implGetBag_any (putB W cs) w hps
  have SP : Hid (∀ w, RowsIs w (.slice au cs.length cu) cs → Calls Tryz.prog 10 #[.agg #[.int .i64 W, (.slice au cs.length cu)]] w fun e w' => e = .returned (.string (putB W cs)) ∧ Below w.heap.size w w') := fun w h => specPutBag_any W _ cs w hwf h
  obtain ⟨s0, es0⟩ : ∃ s, s = putB W cs := ⟨_, rfl⟩
  rw [← es0] at IG SP HO HN ⊢
  clear hps es0
  cases hb : aB t
  · go_cut [60] (fun v wz => v = .bool false ∧ Below wD.heap.size wD wz)
    case first =>
      as_aux_lemma =>
        refine wp_region_held_drew (S := (fun w' => VB w' bA W (.slice au cs.length cu) cs ∧ VB w' bX (aW t) (.slice gx (aC t).length hx) (aC t) ∧ VB w' bY (aW t) (.slice gy (aC t).length hy) (aC t))) (by kernel_rfl) ?_ (fun hHeld => ?_)
        · exact ⟨hA.below (by repeat (first | (with_reducible exact Below.refl _ _) | (with_reducible refine Below.drew ?_) | (with_reducible refine Below.alloc ?_ ?hh _; case hh => first | (simp; done) | (simp; omega) | omega) | (with_reducible refine Below.setCell ?_ ?hh _; case hh => first | (simp; done) | (simp; omega) | omega) | refine bstep (by assumption) (by first | (simp; done) | (simp; omega) | omega) ?_)), hX.below (by repeat (first | (with_reducible exact Below.refl _ _) | (with_reducible refine Below.drew ?_) | (with_reducible refine Below.alloc ?_ ?hh _; case hh => first | (simp; done) | (simp; omega) | omega) | (with_reducible refine Below.setCell ?_ ?hh _; case hh => first | (simp; done) | (simp; omega) | omega) | refine bstep (by assumption) (by first | (simp; done) | (simp; omega) | omega) ?_)), hY.below (by repeat (first | (with_reducible exact Below.refl _ _) | (with_reducible refine Below.drew ?_) | (with_reducible refine Below.alloc ?_ ?hh _; case hh => first | (simp; done) | (simp; omega) | omega) | (with_reducible refine Below.setCell ?_ ?hh _; case hh => first | (simp; done) | (simp; omega) | omega) | refine bstep (by assumption) (by first | (simp; done) | (simp; omega) | omega) ?_))⟩
        refine takeYes (i := 0) (d := 30) (v := ?_) rfl rfl (by kernel_rfl) (by kernel_rfl) (by kernel_rfl) (fun _ _ _ h => h) (by rfl) (by assumption) ?_ ?_
        rotate_left
        · intro w' hSw; obtain ⟨⟨_, a0, a1, _⟩, ⟨_, x0, x1, _⟩, ⟨_, y0, y1, _⟩⟩ := hSw; go_simp; try exact rfl
        try simp only [List.setIfInBounds_toArray, List.set_cons_zero, List.set_cons_succ]
        refine takeYes (i := 1) (d := 31) (v := ?_) rfl rfl (by kernel_rfl) (by kernel_rfl) (by kernel_rfl) (fun _ _ _ h => h) (by rfl) (by assumption) ?_ ?_
        rotate_left
        · intro w' hSw; obtain ⟨⟨_, a0, a1, _⟩, ⟨_, x0, x1, _⟩, ⟨_, y0, y1, _⟩⟩ := hSw; go_simp; try exact rfl
        try simp only [List.setIfInBounds_toArray, List.set_cons_zero, List.set_cons_succ]
        refine wpAnyH_ready (rs := [2]) (by kernel_rfl) (by simp) ?_
        refine AllReadyH.cons rfl (fun KK hKK => ?_) AllReadyH.nil
        go_simp
        go_at_call 10
        refine Calls.mono (SP.out _ (hA.is.below (by repeat (first | (with_reducible exact Below.refl _ _) | (with_reducible refine Below.drew ?_) | (with_reducible refine Below.alloc ?_ ?hh _; case hh => first | (simp; done) | (simp; omega) | omega) | (with_reducible refine Below.setCell ?_ ?hh _; case hh => first | (simp; done) | (simp; omega) | omega) | refine bstep (by assumption) (by first | (simp; done) | (simp; omega) | omega) ?_)))) ?_
        rintro x w10 ⟨rfl, hb10⟩
        have hz10 := hb10.size
        (try simp at hz10)
        try go_wp2_with fail
        refine hKK.out _ _ ?_ (fun hHeld2 => ?_)
        · exact ⟨hA.below (by repeat (first | (with_reducible exact Below.refl _ _) | (with_reducible refine Below.drew ?_) | (with_reducible refine Below.alloc ?_ ?hh _; case hh => first | (simp; done) | (simp; omega) | omega) | (with_reducible refine Below.setCell ?_ ?hh _; case hh => first | (simp; done) | (simp; omega) | omega) | refine bstep (by assumption) (by first | (simp; done) | (simp; omega) | omega) ?_)), hX.below (by repeat (first | (with_reducible exact Below.refl _ _) | (with_reducible refine Below.drew ?_) | (with_reducible refine Below.alloc ?_ ?hh _; case hh => first | (simp; done) | (simp; omega) | omega) | (with_reducible refine Below.setCell ?_ ?hh _; case hh => first | (simp; done) | (simp; omega) | omega) | refine bstep (by assumption) (by first | (simp; done) | (simp; omega) | omega) ?_)), hY.below (by repeat (first | (with_reducible exact Below.refl _ _) | (with_reducible refine Below.drew ?_) | (with_reducible refine Below.alloc ?_ ?hh _; case hh => first | (simp; done) | (simp; omega) | omega) | (with_reducible refine Below.setCell ?_ ?hh _; case hh => first | (simp; done) | (simp; omega) | omega) | refine bstep (by assumption) (by first | (simp; done) | (simp; omega) | omega) ?_))⟩
        clear hKK
        refine takeYes (i := 3) (d := 33) (v := ?_) rfl rfl (by kernel_rfl) (by kernel_rfl) (by kernel_rfl) (fun _ _ _ h => h) (by rfl) (by assumption) ?_ ?_
        rotate_left
        · intro w' hSw; obtain ⟨⟨_, a0, a1, _⟩, ⟨_, x0, x1, _⟩, ⟨_, y0, y1, _⟩⟩ := hSw; go_simp; try exact rfl
        try simp only [List.setIfInBounds_toArray, List.set_cons_zero, List.set_cons_succ]
        refine takeYes (i := 4) (d := 34) (v := ?_) rfl rfl (by kernel_rfl) (by kernel_rfl) (by kernel_rfl) (fun _ _ _ h => h) (by rfl) (by assumption) ?_ ?_
        rotate_left
        · intro w' hSw; obtain ⟨⟨_, a0, a1, _⟩, ⟨_, x0, x1, _⟩, ⟨_, y0, y1, _⟩⟩ := hSw; go_simp; try exact rfl
        try simp only [List.setIfInBounds_toArray, List.set_cons_zero, List.set_cons_succ]
        refine takeYes (i := 5) (d := 35) (v := ?_) rfl rfl (by kernel_rfl) (by kernel_rfl) (by kernel_rfl) (fun _ _ _ h => h) (by rfl) (by assumption) ?_ ?_
        rotate_left
        · intro w' hSw; obtain ⟨⟨_, a0, a1, _⟩, ⟨_, x0, x1, _⟩, ⟨_, y0, y1, _⟩⟩ := hSw; go_simp; try exact rfl
        try simp only [List.setIfInBounds_toArray, List.set_cons_zero, List.set_cons_succ]
        refine takeYes (i := 6) (d := 36) (v := ?_) rfl rfl (by kernel_rfl) (by kernel_rfl) (by kernel_rfl) (fun _ _ _ h => h) (by rfl) (by assumption) ?_ ?_
        rotate_left
        · intro w' hSw; obtain ⟨⟨_, a0, a1, _⟩, ⟨_, x0, x1, _⟩, ⟨_, y0, y1, _⟩⟩ := hSw; go_simp; try exact rfl
        try simp only [List.setIfInBounds_toArray, List.set_cons_zero, List.set_cons_succ]
        refine takeYes (i := 7) (d := 37) (v := ?_) rfl rfl (by kernel_rfl) (by kernel_rfl) (by kernel_rfl) (fun _ _ _ h => h) (by rfl) (by assumption) ?_ ?_
        rotate_left
        · intro w' hSw; obtain ⟨⟨_, a0, a1, _⟩, ⟨_, x0, x1, _⟩, ⟨_, y0, y1, _⟩⟩ := hSw; go_simp; try exact rfl
        try simp only [List.setIfInBounds_toArray, List.set_cons_zero, List.set_cons_succ]
        refine takeYes (i := 8) (d := 38) (v := ?_) rfl rfl (by kernel_rfl) (by kernel_rfl) (by kernel_rfl) (fun _ _ _ h => h) (by rfl) (by assumption) ?_ ?_
        rotate_left
        · intro w' hSw; obtain ⟨⟨_, a0, a1, _⟩, ⟨_, x0, x1, _⟩, ⟨_, y0, y1, _⟩⟩ := hSw; go_simp; try exact rfl
        try simp only [List.setIfInBounds_toArray, List.set_cons_zero, List.set_cons_succ]
        refine takeYes (i := 9) (d := 39) (v := ?_) rfl rfl (by kernel_rfl) (by kernel_rfl) (by kernel_rfl) (fun _ _ _ h => h) (by rfl) (by assumption) ?_ ?_
        rotate_left
        · intro w' hSw; obtain ⟨⟨_, a0, a1, _⟩, ⟨_, x0, x1, _⟩, ⟨_, y0, y1, _⟩⟩ := hSw; go_simp; try exact rfl
        try simp only [List.setIfInBounds_toArray, List.set_cons_zero, List.set_cons_succ]
        refine takeYes (i := 10) (d := 40) (v := ?_) rfl rfl (by kernel_rfl) (by kernel_rfl) (by kernel_rfl) (fun _ _ _ h => h) (by rfl) (by assumption) ?_ ?_
        rotate_left
        · intro w' hSw; obtain ⟨⟨_, a0, a1, _⟩, ⟨_, x0, x1, _⟩, ⟨_, y0, y1, _⟩⟩ := hSw; go_simp; try exact rfl
        try simp only [List.setIfInBounds_toArray, List.set_cons_zero, List.set_cons_succ]
        refine takeYes (i := 11) (d := 41) (v := ?_) rfl rfl (by kernel_rfl) (by kernel_rfl) (by kernel_rfl) (fun _ _ _ h => h) (by rfl) (by assumption) ?_ ?_
        rotate_left
        · intro w' hSw; obtain ⟨⟨_, a0, a1, _⟩, ⟨_, x0, x1, _⟩, ⟨_, y0, y1, _⟩⟩ := hSw; go_simp; try exact rfl
        try simp only [List.setIfInBounds_toArray, List.set_cons_zero, List.set_cons_succ]
        refine wpAnyH_ready (rs := [12]) (by kernel_rfl) (by simp) ?_
        refine AllReadyH.cons rfl (fun KK hKK => ?_) AllReadyH.nil
        go_simp
        go_at_call 11
        refine Calls.mono (sameBag_any (aW t) (.slice gx (aC t).length hx) (.slice gy (aC t).length hy) (aC t) _ (hX.is.below (by repeat (first | (with_reducible exact Below.refl _ _) | (with_reducible refine Below.drew ?_) | (with_reducible refine Below.alloc ?_ ?hh _; case hh => first | (simp; done) | (simp; omega) | omega) | (with_reducible refine Below.setCell ?_ ?hh _; case hh => first | (simp; done) | (simp; omega) | omega) | refine bstep (by assumption) (by first | (simp; done) | (simp; omega) | omega) ?_))) (hY.is.below (by repeat (first | (with_reducible exact Below.refl _ _) | (with_reducible refine Below.drew ?_) | (with_reducible refine Below.alloc ?_ ?hh _; case hh => first | (simp; done) | (simp; omega) | omega) | (with_reducible refine Below.setCell ?_ ?hh _; case hh => first | (simp; done) | (simp; omega) | omega) | refine bstep (by assumption) (by first | (simp; done) | (simp; omega) | omega) ?_)))) ?_
        rintro x w11 ⟨rfl, hb11⟩
        have hz11 := hb11.size
        (try simp at hz11)
        try go_wp2_with fail
        refine hKK.out _ _ ?_ (fun hHeld12 => ?_)
        · exact ⟨hA.below (by repeat (first | (with_reducible exact Below.refl _ _) | (with_reducible refine Below.drew ?_) | (with_reducible refine Below.alloc ?_ ?hh _; case hh => first | (simp; done) | (simp; omega) | omega) | (with_reducible refine Below.setCell ?_ ?hh _; case hh => first | (simp; done) | (simp; omega) | omega) | refine bstep (by assumption) (by first | (simp; done) | (simp; omega) | omega) ?_)), hX.below (by repeat (first | (with_reducible exact Below.refl _ _) | (with_reducible refine Below.drew ?_) | (with_reducible refine Below.alloc ?_ ?hh _; case hh => first | (simp; done) | (simp; omega) | omega) | (with_reducible refine Below.setCell ?_ ?hh _; case hh => first | (simp; done) | (simp; omega) | omega) | refine bstep (by assumption) (by first | (simp; done) | (simp; omega) | omega) ?_)), hY.below (by repeat (first | (with_reducible exact Below.refl _ _) | (with_reducible refine Below.drew ?_) | (with_reducible refine Below.alloc ?_ ?hh _; case hh => first | (simp; done) | (simp; omega) | omega) | (with_reducible refine Below.setCell ?_ ?hh _; case hh => first | (simp; done) | (simp; omega) | omega) | refine bstep (by assumption) (by first | (simp; done) | (simp; omega) | omega) ?_))⟩
        clear hKK
        refine takeYes (i := 13) (d := 43) (v := ?_) rfl rfl (by kernel_rfl) (by kernel_rfl) (by kernel_rfl) (fun _ _ _ h => h) (by rfl) (by assumption) ?_ ?_
        rotate_left
        · intro w' hSw; obtain ⟨⟨_, a0, a1, _⟩, ⟨_, x0, x1, _⟩, ⟨_, y0, y1, _⟩⟩ := hSw; go_simp; try exact rfl
        try simp only [List.setIfInBounds_toArray, List.set_cons_zero, List.set_cons_succ]
        refine takeYes (i := 14) (d := 44) (v := ?_) rfl rfl (by kernel_rfl) (by kernel_rfl) (by kernel_rfl) (fun _ _ _ h => h) (by rfl) (by assumption) ?_ ?_
        rotate_left
        · intro w' hSw; obtain ⟨⟨_, a0, a1, _⟩, ⟨_, x0, x1, _⟩, ⟨_, y0, y1, _⟩⟩ := hSw; go_simp; try exact rfl
        try simp only [List.setIfInBounds_toArray, List.set_cons_zero, List.set_cons_succ]
        refine takeYes (i := 15) (d := 45) (v := ?_) rfl rfl (by kernel_rfl) (by kernel_rfl) (by kernel_rfl) (fun _ _ _ h => h) (by rfl) (by assumption) ?_ ?_
        rotate_left
        · intro w' hSw; obtain ⟨⟨_, a0, a1, _⟩, ⟨_, x0, x1, _⟩, ⟨_, y0, y1, _⟩⟩ := hSw; go_simp; try exact rfl
        try simp only [List.setIfInBounds_toArray, List.set_cons_zero, List.set_cons_succ]
        refine takeYes (i := 16) (d := 46) (v := ?_) rfl rfl (by kernel_rfl) (by kernel_rfl) (by kernel_rfl) (fun _ _ _ h => h) (by rfl) (by assumption) ?_ ?_
        rotate_left
        · intro w' hSw; obtain ⟨⟨_, a0, a1, _⟩, ⟨_, x0, x1, _⟩, ⟨_, y0, y1, _⟩⟩ := hSw; go_simp; try exact rfl
        try simp only [List.setIfInBounds_toArray, List.set_cons_zero, List.set_cons_succ]
        refine takeYes (i := 17) (d := 47) (v := ?_) rfl rfl (by kernel_rfl) (by kernel_rfl) (by kernel_rfl) (fun _ _ _ h => h) (by rfl) (by assumption) ?_ ?_
        rotate_left
        · intro w' hSw; obtain ⟨⟨_, a0, a1, _⟩, ⟨_, x0, x1, _⟩, ⟨_, y0, y1, _⟩⟩ := hSw; go_simp; try exact rfl
        try simp only [List.setIfInBounds_toArray, List.set_cons_zero, List.set_cons_succ]
        refine takeNo (i := 18) (d := 48) rfl rfl (by kernel_rfl) (by kernel_rfl) (by kernel_rfl) (fun _ _ _ h => h) (by rfl) (by assumption) ?_
        try simp only [List.setIfInBounds_toArray, List.set_cons_zero, List.set_cons_succ]
        refine takeNo (i := 20) (d := 50) rfl rfl (by kernel_rfl) (by kernel_rfl) (by kernel_rfl) (fun _ _ _ h => h) (by rfl) (by assumption) ?_
        try simp only [List.setIfInBounds_toArray, List.set_cons_zero, List.set_cons_succ]
        refine wpAnyH_ready (rs := [19]) (by kernel_rfl) (by simp) ?_
        refine AllReadyH.cons rfl (fun KK hKK => ?_) AllReadyH.nil
        go_simp
        refine hKK.out _ _ ?_ (fun hHeld19 => ?_)
        · exact ⟨hA.below (by repeat (first | (with_reducible exact Below.refl _ _) | (with_reducible refine Below.drew ?_) | (with_reducible refine Below.alloc ?_ ?hh _; case hh => first | (simp; done) | (simp; omega) | omega) | (with_reducible refine Below.setCell ?_ ?hh _; case hh => first | (simp; done) | (simp; omega) | omega) | refine bstep (by assumption) (by first | (simp; done) | (simp; omega) | omega) ?_)), hX.below (by repeat (first | (with_reducible exact Below.refl _ _) | (with_reducible refine Below.drew ?_) | (with_reducible refine Below.alloc ?_ ?hh _; case hh => first | (simp; done) | (simp; omega) | omega) | (with_reducible refine Below.setCell ?_ ?hh _; case hh => first | (simp; done) | (simp; omega) | omega) | refine bstep (by assumption) (by first | (simp; done) | (simp; omega) | omega) ?_)), hY.below (by repeat (first | (with_reducible exact Below.refl _ _) | (with_reducible refine Below.drew ?_) | (with_reducible refine Below.alloc ?_ ?hh _; case hh => first | (simp; done) | (simp; omega) | omega) | (with_reducible refine Below.setCell ?_ ?hh _; case hh => first | (simp; done) | (simp; omega) | omega) | refine bstep (by assumption) (by first | (simp; done) | (simp; omega) | omega) ?_))⟩
        clear hKK
        refine takeNo (i := 21) (d := 51) rfl rfl (by kernel_rfl) (by kernel_rfl) (by kernel_rfl) (fun _ _ _ h => h) (by rfl) (by assumption) ?_
        try simp only [List.setIfInBounds_toArray, List.set_cons_zero, List.set_cons_succ]
        refine takeYes (i := 22) (d := 52) (v := ?_) rfl rfl (by kernel_rfl) (by kernel_rfl) (by kernel_rfl) (fun _ _ _ h => h) (by rfl) (by assumption) ?_ ?_
        rotate_left
        · intro w' hSw; obtain ⟨⟨_, a0, a1, _⟩, ⟨_, x0, x1, _⟩, ⟨_, y0, y1, _⟩⟩ := hSw; go_simp; try exact rfl
        try simp only [List.setIfInBounds_toArray, List.set_cons_zero, List.set_cons_succ]
        refine takeYes (i := 23) (d := 53) (v := ?_) rfl rfl (by kernel_rfl) (by kernel_rfl) (by kernel_rfl) (fun _ _ _ h => h) (by rfl) (by assumption) ?_ ?_
        rotate_left
        · intro w' hSw; obtain ⟨⟨_, a0, a1, _⟩, ⟨_, x0, x1, _⟩, ⟨_, y0, y1, _⟩⟩ := hSw; go_simp; try exact rfl
        try simp only [List.setIfInBounds_toArray, List.set_cons_zero, List.set_cons_succ]
        refine takeYes (i := 24) (d := 54) (v := ?_) rfl rfl (by kernel_rfl) (by kernel_rfl) (by kernel_rfl) (fun _ _ _ h => h) (by rfl) (by assumption) ?_ ?_
        rotate_left
        · intro w' hSw; obtain ⟨⟨_, a0, a1, _⟩, ⟨_, x0, x1, _⟩, ⟨_, y0, y1, _⟩⟩ := hSw; go_simp; try exact rfl
        try simp only [List.setIfInBounds_toArray, List.set_cons_zero, List.set_cons_succ]
        refine takeYes (i := 25) (d := 55) (v := ?_) rfl rfl (by kernel_rfl) (by kernel_rfl) (by kernel_rfl) (fun _ _ _ h => h) (by rfl) (by assumption) ?_ ?_
        rotate_left
        · intro w' hSw; obtain ⟨⟨_, a0, a1, _⟩, ⟨_, x0, x1, _⟩, ⟨_, y0, y1, _⟩⟩ := hSw; go_simp; try exact rfl
        try simp only [List.setIfInBounds_toArray, List.set_cons_zero, List.set_cons_succ]
        refine takeYes (i := 27) (d := 57) (v := ?_) rfl rfl (by kernel_rfl) (by kernel_rfl) (by kernel_rfl) (fun _ _ _ h => h) (by rfl) (by assumption) ?_ ?_
        rotate_left
        · intro w' hSw; obtain ⟨⟨_, a0, a1, _⟩, ⟨_, x0, x1, _⟩, ⟨_, y0, y1, _⟩⟩ := hSw; go_simp; try exact rfl
        try simp only [List.setIfInBounds_toArray, List.set_cons_zero, List.set_cons_succ]
        refine wpAnyH_ready (rs := [26]) (by kernel_rfl) (by simp) ?_
        refine AllReadyH.cons rfl (fun KK hKK => ?_) AllReadyH.nil
        go_simp
        go_at_call 12
        refine Calls.mono (implBagText_any W (.slice au cs.length cu) cs _ hwf (hA.is.below (by repeat (first | (with_reducible exact Below.refl _ _) | (with_reducible refine Below.drew ?_) | (with_reducible refine Below.alloc ?_ ?hh _; case hh => first | (simp; done) | (simp; omega) | omega) | (with_reducible refine Below.setCell ?_ ?hh _; case hh => first | (simp; done) | (simp; omega) | omega) | refine bstep (by assumption) (by first | (simp; done) | (simp; omega) | omega) ?_))) (hE5.below (by repeat (first | (with_reducible exact Below.refl _ _) | (with_reducible refine Below.drew ?_) | (with_reducible refine Below.alloc ?_ ?hh _; case hh => first | (simp; done) | (simp; omega) | omega) | (with_reducible refine Below.setCell ?_ ?hh _; case hh => first | (simp; done) | (simp; omega) | omega) | refine bstep (by assumption) (by first | (simp; done) | (simp; omega) | omega) ?_)))) ?_
        rintro x w13 ⟨rfl, hb13⟩
        have hz13 := hb13.size
        (try simp at hz13)
        try go_wp2_with fail
        refine hKK.out _ _ ?_ (fun hHeld26 => ?_)
        · exact ⟨hA.below (by repeat (first | (with_reducible exact Below.refl _ _) | (with_reducible refine Below.drew ?_) | (with_reducible refine Below.alloc ?_ ?hh _; case hh => first | (simp; done) | (simp; omega) | omega) | (with_reducible refine Below.setCell ?_ ?hh _; case hh => first | (simp; done) | (simp; omega) | omega) | refine bstep (by assumption) (by first | (simp; done) | (simp; omega) | omega) ?_)), hX.below (by repeat (first | (with_reducible exact Below.refl _ _) | (with_reducible refine Below.drew ?_) | (with_reducible refine Below.alloc ?_ ?hh _; case hh => first | (simp; done) | (simp; omega) | omega) | (with_reducible refine Below.setCell ?_ ?hh _; case hh => first | (simp; done) | (simp; omega) | omega) | refine bstep (by assumption) (by first | (simp; done) | (simp; omega) | omega) ?_)), hY.below (by repeat (first | (with_reducible exact Below.refl _ _) | (with_reducible refine Below.drew ?_) | (with_reducible refine Below.alloc ?_ ?hh _; case hh => first | (simp; done) | (simp; omega) | omega) | (with_reducible refine Below.setCell ?_ ?hh _; case hh => first | (simp; done) | (simp; omega) | omega) | refine bstep (by assumption) (by first | (simp; done) | (simp; omega) | omega) ?_))⟩
        clear hKK
        refine wpAnyH_ready (rs := [28]) (by kernel_rfl) (by simp) ?_
        refine AllReadyH.cons rfl (fun KK hKK => ?_) AllReadyH.nil
        go_simp
        go_at_call 13
        refine Calls.mono (specBagText_any W (.slice au cs.length cu) cs _ hwf (hA.is.below (by repeat (first | (with_reducible exact Below.refl _ _) | (with_reducible refine Below.drew ?_) | (with_reducible refine Below.alloc ?_ ?hh _; case hh => first | (simp; done) | (simp; omega) | omega) | (with_reducible refine Below.setCell ?_ ?hh _; case hh => first | (simp; done) | (simp; omega) | omega) | refine bstep (by assumption) (by first | (simp; done) | (simp; omega) | omega) ?_)))) ?_
        rintro x w14 ⟨rfl, hb14⟩
        have hz14 := hb14.size
        (try simp at hz14)
        try go_wp2_with fail
        refine hKK.out _ _ ?_ (fun hHeld28 => ?_)
        · exact ⟨hA.below (by repeat (first | (with_reducible exact Below.refl _ _) | (with_reducible refine Below.drew ?_) | (with_reducible refine Below.alloc ?_ ?hh _; case hh => first | (simp; done) | (simp; omega) | omega) | (with_reducible refine Below.setCell ?_ ?hh _; case hh => first | (simp; done) | (simp; omega) | omega) | refine bstep (by assumption) (by first | (simp; done) | (simp; omega) | omega) ?_)), hX.below (by repeat (first | (with_reducible exact Below.refl _ _) | (with_reducible refine Below.drew ?_) | (with_reducible refine Below.alloc ?_ ?hh _; case hh => first | (simp; done) | (simp; omega) | omega) | (with_reducible refine Below.setCell ?_ ?hh _; case hh => first | (simp; done) | (simp; omega) | omega) | refine bstep (by assumption) (by first | (simp; done) | (simp; omega) | omega) ?_)), hY.below (by repeat (first | (with_reducible exact Below.refl _ _) | (with_reducible refine Below.drew ?_) | (with_reducible refine Below.alloc ?_ ?hh _; case hh => first | (simp; done) | (simp; omega) | omega) | (with_reducible refine Below.setCell ?_ ?hh _; case hh => first | (simp; done) | (simp; omega) | omega) | refine bstep (by assumption) (by first | (simp; done) | (simp; omega) | omega) ?_))⟩
        clear hKK
        refine takeYes (i := 29) (d := 59) (v := ?_) rfl rfl (by kernel_rfl) (by kernel_rfl) (by kernel_rfl) (fun _ _ _ h => h) (by rfl) (by assumption) ?_ ?_
        rotate_left
        · intro w' hSw; obtain ⟨⟨_, a0, a1, _⟩, ⟨_, x0, x1, _⟩, ⟨_, y0, y1, _⟩⟩ := hSw; go_simp; try exact rfl
        try simp only [List.setIfInBounds_toArray, List.set_cons_zero, List.set_cons_succ]
        refine takeYes (i := 30) (d := 60) (v := ?_) rfl rfl (by kernel_rfl) (by kernel_rfl) (by kernel_rfl) (fun _ _ _ h => h) (by rfl) (by assumption) ?_ ?_
        rotate_left
        · intro w' hSw; obtain ⟨⟨_, a0, a1, _⟩, ⟨_, x0, x1, _⟩, ⟨_, y0, y1, _⟩⟩ := hSw; go_simp; try exact rfl
        try simp only [List.setIfInBounds_toArray, List.set_cons_zero, List.set_cons_succ]
        refine wpAnyH_done (by kernel_rfl) ?_ _
        go_wp2_with fail
        (try go_meet)
        (try (case rel => exact ⟨rfl, by repeat (first | (with_reducible exact Below.refl _ _) | (with_reducible refine Below.drew ?_) | (with_reducible refine Below.alloc ?_ ?hh _; case hh => first | (simp; done) | (simp; omega) | omega) | (with_reducible refine Below.setCell ?_ ?hh _; case hh => first | (simp; done) | (simp; omega) | omega) | refine bstep (by assumption) (by first | (simp; done) | (simp; omega) | omega) ?_)⟩))
    case rest =>
      as_aux_lemma =>
        obtain ⟨rfl, hbL⟩ := hcut
        replace hA := hA.below hbL
        replace hbw : Below w.heap.size w wc := hbw.trans (hbL.mono hzw)
        replace hzw := hbw.size
        clear hbL hX hY HG SP hE5 wa
        cases hok : okBag W cs
        · have hs0 : s0 = ⟨#[]⟩ := HN.out hok
          subst hs0
          obtain ⟨_, a0, a1, isA⟩ := hA
          go_wp2_with fail
          refine (specBagOk_any W (.slice au cs.length cu) cs _ hwf isA).mono ?_
          rintro x w30 ⟨rfl, hb30⟩
          rw [hok]
          go_wp2
          go_returns
          exact ⟨rfl, by repeat (first | (with_reducible exact Below.refl _ _) | (with_reducible refine Below.drew ?_) | (with_reducible refine Below.alloc ?_ ?hh _; case hh => first | (simp; done) | (simp; omega) | omega) | (with_reducible refine Below.setCell ?_ ?hh _; case hh => first | (simp; done) | (simp; omega) | omega) | refine bstep (by assumption) (by first | (simp; done) | (simp; omega) | omega) ?_)⟩
        obtain ⟨hpos, e1, e2, e3⟩ := HO.out hok
        have hne : (s0.toList == []) = false := by
          rw [ByteArray.toList_eq]
          have : s0.data.toList.length = s0.size := rfl
          cases h : s0.data.toList with
          | nil => rw [h] at this; simp at this; omega
          | cons => rfl
        have IH := IG.out
        rw [e1, e2, e3] at IH
        have IG2 : Hid _ := IH
        clear IH IG HO HN hpos e1 e2 e3 hok
        go_wp2_with fail
        refine (IG2.out _).mono ?_
        rintro x w31 ⟨⟨u6, us6, G6, rfl, hB6⟩, hb31⟩
        obtain ⟨gz, hz, rfl⟩ := hB6.shape
        obtain ⟨F6, hF6, _⟩ := hB6.rowsF
        have isZ := hF6.is
        clear hF6 hB6
        replace hA := hA.below hb31
        replace hbw : Below w.heap.size w w31 := hbw.trans (hb31.mono hzw)
        replace hzw := hbw.size
        clear hb31
        have hZ := VB.new w31 W (.slice gz cs.length hz) cs isZ
        replace hA := hA.alloc (.cells #[.int .i64 W, (.slice gz cs.length hz)] 26)
        replace hbw : Below w.heap.size w (w31.alloc (.cells #[.int .i64 W, (.slice gz cs.length hz)] 26)) := hbw.trans ((Below.refl _ _).alloc hzw _)
        replace hzw := hbw.size
        have qA := hA
        obtain ⟨_, a0, a1, _⟩ := qA
        have qZ := hZ
        obtain ⟨_, z0, z1, _⟩ := qZ
        go_wp2_with fail
        refine (sameBag_any W (.slice gz cs.length hz) (.slice au cs.length cu) cs _ (hZ.is.below (by repeat (first | (with_reducible exact Below.refl _ _) | (with_reducible refine Below.drew ?_) | (with_reducible refine Below.alloc ?_ ?hh _; case hh => first | (simp; done) | (simp; omega) | omega) | (with_reducible refine Below.setCell ?_ ?hh _; case hh => first | (simp; done) | (simp; omega) | omega) | refine bstep (by assumption) (by first | (simp; done) | (simp; omega) | omega) ?_))) (hA.is.below (by repeat (first | (with_reducible exact Below.refl _ _) | (with_reducible refine Below.drew ?_) | (with_reducible refine Below.alloc ?_ ?hh _; case hh => first | (simp; done) | (simp; omega) | omega) | (with_reducible refine Below.setCell ?_ ?hh _; case hh => first | (simp; done) | (simp; omega) | omega) | refine bstep (by assumption) (by first | (simp; done) | (simp; omega) | omega) ?_)))).mono ?_
        rintro x w32 ⟨rfl, hb32⟩
        replace hbw := hbw.trans (hb32.mono hzw)
        go_wp2
        go_returns
        exact ⟨rfl, hbw⟩
  · go_cut [60] (fun v wz => v = .bool false ∧ Below wD.heap.size wD wz)
    case first =>
      as_aux_lemma =>
        refine wp_region_held_drew (S := (fun w' => VB w' bA W (.slice au cs.length cu) cs ∧ VB w' bX (aW t) (.slice gx (aC t).length hx) (aC t) ∧ VB w' bY (aW t) (.slice gy (aC t).length hy) (aC t))) (by kernel_rfl) ?_ (fun hHeld => ?_)
        · exact ⟨hA.below (by repeat (first | (with_reducible exact Below.refl _ _) | (with_reducible refine Below.drew ?_) | (with_reducible refine Below.alloc ?_ ?hh _; case hh => first | (simp; done) | (simp; omega) | omega) | (with_reducible refine Below.setCell ?_ ?hh _; case hh => first | (simp; done) | (simp; omega) | omega) | refine bstep (by assumption) (by first | (simp; done) | (simp; omega) | omega) ?_)), hX.below (by repeat (first | (with_reducible exact Below.refl _ _) | (with_reducible refine Below.drew ?_) | (with_reducible refine Below.alloc ?_ ?hh _; case hh => first | (simp; done) | (simp; omega) | omega) | (with_reducible refine Below.setCell ?_ ?hh _; case hh => first | (simp; done) | (simp; omega) | omega) | refine bstep (by assumption) (by first | (simp; done) | (simp; omega) | omega) ?_)), hY.below (by repeat (first | (with_reducible exact Below.refl _ _) | (with_reducible refine Below.drew ?_) | (with_reducible refine Below.alloc ?_ ?hh _; case hh => first | (simp; done) | (simp; omega) | omega) | (with_reducible refine Below.setCell ?_ ?hh _; case hh => first | (simp; done) | (simp; omega) | omega) | refine bstep (by assumption) (by first | (simp; done) | (simp; omega) | omega) ?_))⟩
        refine takeYes (i := 0) (d := 30) (v := ?_) rfl rfl (by kernel_rfl) (by kernel_rfl) (by kernel_rfl) (fun _ _ _ h => h) (by rfl) (by assumption) ?_ ?_
        rotate_left
        · intro w' hSw; obtain ⟨⟨_, a0, a1, _⟩, ⟨_, x0, x1, _⟩, ⟨_, y0, y1, _⟩⟩ := hSw; go_simp; try exact rfl
        try simp only [List.setIfInBounds_toArray, List.set_cons_zero, List.set_cons_succ]
        refine takeYes (i := 1) (d := 31) (v := ?_) rfl rfl (by kernel_rfl) (by kernel_rfl) (by kernel_rfl) (fun _ _ _ h => h) (by rfl) (by assumption) ?_ ?_
        rotate_left
        · intro w' hSw; obtain ⟨⟨_, a0, a1, _⟩, ⟨_, x0, x1, _⟩, ⟨_, y0, y1, _⟩⟩ := hSw; go_simp; try exact rfl
        try simp only [List.setIfInBounds_toArray, List.set_cons_zero, List.set_cons_succ]
        refine wpAnyH_ready (rs := [2]) (by kernel_rfl) (by simp) ?_
        refine AllReadyH.cons rfl (fun KK hKK => ?_) AllReadyH.nil
        go_simp
        go_at_call 10
        refine Calls.mono (SP.out _ (hA.is.below (by repeat (first | (with_reducible exact Below.refl _ _) | (with_reducible refine Below.drew ?_) | (with_reducible refine Below.alloc ?_ ?hh _; case hh => first | (simp; done) | (simp; omega) | omega) | (with_reducible refine Below.setCell ?_ ?hh _; case hh => first | (simp; done) | (simp; omega) | omega) | refine bstep (by assumption) (by first | (simp; done) | (simp; omega) | omega) ?_)))) ?_
        rintro x w10 ⟨rfl, hb10⟩
        have hz10 := hb10.size
        (try simp at hz10)
        try go_wp2_with fail
        refine hKK.out _ _ ?_ (fun hHeld2 => ?_)
        · exact ⟨hA.below (by repeat (first | (with_reducible exact Below.refl _ _) | (with_reducible refine Below.drew ?_) | (with_reducible refine Below.alloc ?_ ?hh _; case hh => first | (simp; done) | (simp; omega) | omega) | (with_reducible refine Below.setCell ?_ ?hh _; case hh => first | (simp; done) | (simp; omega) | omega) | refine bstep (by assumption) (by first | (simp; done) | (simp; omega) | omega) ?_)), hX.below (by repeat (first | (with_reducible exact Below.refl _ _) | (with_reducible refine Below.drew ?_) | (with_reducible refine Below.alloc ?_ ?hh _; case hh => first | (simp; done) | (simp; omega) | omega) | (with_reducible refine Below.setCell ?_ ?hh _; case hh => first | (simp; done) | (simp; omega) | omega) | refine bstep (by assumption) (by first | (simp; done) | (simp; omega) | omega) ?_)), hY.below (by repeat (first | (with_reducible exact Below.refl _ _) | (with_reducible refine Below.drew ?_) | (with_reducible refine Below.alloc ?_ ?hh _; case hh => first | (simp; done) | (simp; omega) | omega) | (with_reducible refine Below.setCell ?_ ?hh _; case hh => first | (simp; done) | (simp; omega) | omega) | refine bstep (by assumption) (by first | (simp; done) | (simp; omega) | omega) ?_))⟩
        clear hKK
        refine takeYes (i := 3) (d := 33) (v := ?_) rfl rfl (by kernel_rfl) (by kernel_rfl) (by kernel_rfl) (fun _ _ _ h => h) (by rfl) (by assumption) ?_ ?_
        rotate_left
        · intro w' hSw; obtain ⟨⟨_, a0, a1, _⟩, ⟨_, x0, x1, _⟩, ⟨_, y0, y1, _⟩⟩ := hSw; go_simp; try exact rfl
        try simp only [List.setIfInBounds_toArray, List.set_cons_zero, List.set_cons_succ]
        refine takeYes (i := 4) (d := 34) (v := ?_) rfl rfl (by kernel_rfl) (by kernel_rfl) (by kernel_rfl) (fun _ _ _ h => h) (by rfl) (by assumption) ?_ ?_
        rotate_left
        · intro w' hSw; obtain ⟨⟨_, a0, a1, _⟩, ⟨_, x0, x1, _⟩, ⟨_, y0, y1, _⟩⟩ := hSw; go_simp; try exact rfl
        try simp only [List.setIfInBounds_toArray, List.set_cons_zero, List.set_cons_succ]
        refine takeYes (i := 5) (d := 35) (v := ?_) rfl rfl (by kernel_rfl) (by kernel_rfl) (by kernel_rfl) (fun _ _ _ h => h) (by rfl) (by assumption) ?_ ?_
        rotate_left
        · intro w' hSw; obtain ⟨⟨_, a0, a1, _⟩, ⟨_, x0, x1, _⟩, ⟨_, y0, y1, _⟩⟩ := hSw; go_simp; try exact rfl
        try simp only [List.setIfInBounds_toArray, List.set_cons_zero, List.set_cons_succ]
        refine takeYes (i := 6) (d := 36) (v := ?_) rfl rfl (by kernel_rfl) (by kernel_rfl) (by kernel_rfl) (fun _ _ _ h => h) (by rfl) (by assumption) ?_ ?_
        rotate_left
        · intro w' hSw; obtain ⟨⟨_, a0, a1, _⟩, ⟨_, x0, x1, _⟩, ⟨_, y0, y1, _⟩⟩ := hSw; go_simp; try exact rfl
        try simp only [List.setIfInBounds_toArray, List.set_cons_zero, List.set_cons_succ]
        refine takeYes (i := 7) (d := 37) (v := ?_) rfl rfl (by kernel_rfl) (by kernel_rfl) (by kernel_rfl) (fun _ _ _ h => h) (by rfl) (by assumption) ?_ ?_
        rotate_left
        · intro w' hSw; obtain ⟨⟨_, a0, a1, _⟩, ⟨_, x0, x1, _⟩, ⟨_, y0, y1, _⟩⟩ := hSw; go_simp; try exact rfl
        try simp only [List.setIfInBounds_toArray, List.set_cons_zero, List.set_cons_succ]
        refine takeYes (i := 8) (d := 38) (v := ?_) rfl rfl (by kernel_rfl) (by kernel_rfl) (by kernel_rfl) (fun _ _ _ h => h) (by rfl) (by assumption) ?_ ?_
        rotate_left
        · intro w' hSw; obtain ⟨⟨_, a0, a1, _⟩, ⟨_, x0, x1, _⟩, ⟨_, y0, y1, _⟩⟩ := hSw; go_simp; try exact rfl
        try simp only [List.setIfInBounds_toArray, List.set_cons_zero, List.set_cons_succ]
        refine takeYes (i := 9) (d := 39) (v := ?_) rfl rfl (by kernel_rfl) (by kernel_rfl) (by kernel_rfl) (fun _ _ _ h => h) (by rfl) (by assumption) ?_ ?_
        rotate_left
        · intro w' hSw; obtain ⟨⟨_, a0, a1, _⟩, ⟨_, x0, x1, _⟩, ⟨_, y0, y1, _⟩⟩ := hSw; go_simp; try exact rfl
        try simp only [List.setIfInBounds_toArray, List.set_cons_zero, List.set_cons_succ]
        refine takeYes (i := 10) (d := 40) (v := ?_) rfl rfl (by kernel_rfl) (by kernel_rfl) (by kernel_rfl) (fun _ _ _ h => h) (by rfl) (by assumption) ?_ ?_
        rotate_left
        · intro w' hSw; obtain ⟨⟨_, a0, a1, _⟩, ⟨_, x0, x1, _⟩, ⟨_, y0, y1, _⟩⟩ := hSw; go_simp; try exact rfl
        try simp only [List.setIfInBounds_toArray, List.set_cons_zero, List.set_cons_succ]
        refine takeYes (i := 11) (d := 41) (v := ?_) rfl rfl (by kernel_rfl) (by kernel_rfl) (by kernel_rfl) (fun _ _ _ h => h) (by rfl) (by assumption) ?_ ?_
        rotate_left
        · intro w' hSw; obtain ⟨⟨_, a0, a1, _⟩, ⟨_, x0, x1, _⟩, ⟨_, y0, y1, _⟩⟩ := hSw; go_simp; try exact rfl
        try simp only [List.setIfInBounds_toArray, List.set_cons_zero, List.set_cons_succ]
        refine wpAnyH_ready (rs := [12]) (by kernel_rfl) (by simp) ?_
        refine AllReadyH.cons rfl (fun KK hKK => ?_) AllReadyH.nil
        go_simp
        go_at_call 11
        refine Calls.mono (sameBag_any (aW t) (.slice gx (aC t).length hx) (.slice gy (aC t).length hy) (aC t) _ (hX.is.below (by repeat (first | (with_reducible exact Below.refl _ _) | (with_reducible refine Below.drew ?_) | (with_reducible refine Below.alloc ?_ ?hh _; case hh => first | (simp; done) | (simp; omega) | omega) | (with_reducible refine Below.setCell ?_ ?hh _; case hh => first | (simp; done) | (simp; omega) | omega) | refine bstep (by assumption) (by first | (simp; done) | (simp; omega) | omega) ?_))) (hY.is.below (by repeat (first | (with_reducible exact Below.refl _ _) | (with_reducible refine Below.drew ?_) | (with_reducible refine Below.alloc ?_ ?hh _; case hh => first | (simp; done) | (simp; omega) | omega) | (with_reducible refine Below.setCell ?_ ?hh _; case hh => first | (simp; done) | (simp; omega) | omega) | refine bstep (by assumption) (by first | (simp; done) | (simp; omega) | omega) ?_)))) ?_
        rintro x w11 ⟨rfl, hb11⟩
        have hz11 := hb11.size
        (try simp at hz11)
        try go_wp2_with fail
        refine hKK.out _ _ ?_ (fun hHeld12 => ?_)
        · exact ⟨hA.below (by repeat (first | (with_reducible exact Below.refl _ _) | (with_reducible refine Below.drew ?_) | (with_reducible refine Below.alloc ?_ ?hh _; case hh => first | (simp; done) | (simp; omega) | omega) | (with_reducible refine Below.setCell ?_ ?hh _; case hh => first | (simp; done) | (simp; omega) | omega) | refine bstep (by assumption) (by first | (simp; done) | (simp; omega) | omega) ?_)), hX.below (by repeat (first | (with_reducible exact Below.refl _ _) | (with_reducible refine Below.drew ?_) | (with_reducible refine Below.alloc ?_ ?hh _; case hh => first | (simp; done) | (simp; omega) | omega) | (with_reducible refine Below.setCell ?_ ?hh _; case hh => first | (simp; done) | (simp; omega) | omega) | refine bstep (by assumption) (by first | (simp; done) | (simp; omega) | omega) ?_)), hY.below (by repeat (first | (with_reducible exact Below.refl _ _) | (with_reducible refine Below.drew ?_) | (with_reducible refine Below.alloc ?_ ?hh _; case hh => first | (simp; done) | (simp; omega) | omega) | (with_reducible refine Below.setCell ?_ ?hh _; case hh => first | (simp; done) | (simp; omega) | omega) | refine bstep (by assumption) (by first | (simp; done) | (simp; omega) | omega) ?_))⟩
        clear hKK
        refine takeYes (i := 13) (d := 43) (v := ?_) rfl rfl (by kernel_rfl) (by kernel_rfl) (by kernel_rfl) (fun _ _ _ h => h) (by rfl) (by assumption) ?_ ?_
        rotate_left
        · intro w' hSw; obtain ⟨⟨_, a0, a1, _⟩, ⟨_, x0, x1, _⟩, ⟨_, y0, y1, _⟩⟩ := hSw; go_simp; try exact rfl
        try simp only [List.setIfInBounds_toArray, List.set_cons_zero, List.set_cons_succ]
        refine takeYes (i := 14) (d := 44) (v := ?_) rfl rfl (by kernel_rfl) (by kernel_rfl) (by kernel_rfl) (fun _ _ _ h => h) (by rfl) (by assumption) ?_ ?_
        rotate_left
        · intro w' hSw; obtain ⟨⟨_, a0, a1, _⟩, ⟨_, x0, x1, _⟩, ⟨_, y0, y1, _⟩⟩ := hSw; go_simp; try exact rfl
        try simp only [List.setIfInBounds_toArray, List.set_cons_zero, List.set_cons_succ]
        refine takeYes (i := 15) (d := 45) (v := ?_) rfl rfl (by kernel_rfl) (by kernel_rfl) (by kernel_rfl) (fun _ _ _ h => h) (by rfl) (by assumption) ?_ ?_
        rotate_left
        · intro w' hSw; obtain ⟨⟨_, a0, a1, _⟩, ⟨_, x0, x1, _⟩, ⟨_, y0, y1, _⟩⟩ := hSw; go_simp; try exact rfl
        try simp only [List.setIfInBounds_toArray, List.set_cons_zero, List.set_cons_succ]
        refine takeYes (i := 16) (d := 46) (v := ?_) rfl rfl (by kernel_rfl) (by kernel_rfl) (by kernel_rfl) (fun _ _ _ h => h) (by rfl) (by assumption) ?_ ?_
        rotate_left
        · intro w' hSw; obtain ⟨⟨_, a0, a1, _⟩, ⟨_, x0, x1, _⟩, ⟨_, y0, y1, _⟩⟩ := hSw; go_simp; try exact rfl
        try simp only [List.setIfInBounds_toArray, List.set_cons_zero, List.set_cons_succ]
        refine takeYes (i := 17) (d := 47) (v := ?_) rfl rfl (by kernel_rfl) (by kernel_rfl) (by kernel_rfl) (fun _ _ _ h => h) (by rfl) (by assumption) ?_ ?_
        rotate_left
        · intro w' hSw; obtain ⟨⟨_, a0, a1, _⟩, ⟨_, x0, x1, _⟩, ⟨_, y0, y1, _⟩⟩ := hSw; go_simp; try exact rfl
        try simp only [List.setIfInBounds_toArray, List.set_cons_zero, List.set_cons_succ]
        refine takeYes (i := 18) (d := 48) (v := ?_) rfl rfl (by kernel_rfl) (by kernel_rfl) (by kernel_rfl) (fun _ _ _ h => h) (by rfl) (by assumption) ?_ ?_
        rotate_left
        · intro w' hSw; obtain ⟨⟨_, a0, a1, _⟩, ⟨_, x0, x1, _⟩, ⟨_, y0, y1, _⟩⟩ := hSw; go_simp; try exact rfl
        try simp only [List.setIfInBounds_toArray, List.set_cons_zero, List.set_cons_succ]
        refine takeYes (i := 20) (d := 50) (v := ?_) rfl rfl (by kernel_rfl) (by kernel_rfl) (by kernel_rfl) (fun _ _ _ h => h) (by rfl) (by assumption) ?_ ?_
        rotate_left
        · intro w' hSw; obtain ⟨⟨_, a0, a1, _⟩, ⟨_, x0, x1, _⟩, ⟨_, y0, y1, _⟩⟩ := hSw; go_simp; try exact rfl
        try simp only [List.setIfInBounds_toArray, List.set_cons_zero, List.set_cons_succ]
        refine wpAnyH_ready (rs := [19]) (by kernel_rfl) (by simp) ?_
        refine AllReadyH.cons rfl (fun KK hKK => ?_) AllReadyH.nil
        go_simp
        go_at_call 6
        refine Calls.mono (implPutBag_any (aW t) (.slice gx (aC t).length hx) (aC t) _ wa (hX.is.below (by repeat (first | (with_reducible exact Below.refl _ _) | (with_reducible refine Below.drew ?_) | (with_reducible refine Below.alloc ?_ ?hh _; case hh => first | (simp; done) | (simp; omega) | omega) | (with_reducible refine Below.setCell ?_ ?hh _; case hh => first | (simp; done) | (simp; omega) | omega) | refine bstep (by assumption) (by first | (simp; done) | (simp; omega) | omega) ?_)))) ?_
        rintro x w12 ⟨rfl, hb12⟩
        have hz12 := hb12.size
        (try simp at hz12)
        rw [HG.out hb]
        try go_wp2_with fail
        refine hKK.out _ _ ?_ (fun hHeld19 => ?_)
        · exact ⟨hA.below (by repeat (first | (with_reducible exact Below.refl _ _) | (with_reducible refine Below.drew ?_) | (with_reducible refine Below.alloc ?_ ?hh _; case hh => first | (simp; done) | (simp; omega) | omega) | (with_reducible refine Below.setCell ?_ ?hh _; case hh => first | (simp; done) | (simp; omega) | omega) | refine bstep (by assumption) (by first | (simp; done) | (simp; omega) | omega) ?_)), hX.below (by repeat (first | (with_reducible exact Below.refl _ _) | (with_reducible refine Below.drew ?_) | (with_reducible refine Below.alloc ?_ ?hh _; case hh => first | (simp; done) | (simp; omega) | omega) | (with_reducible refine Below.setCell ?_ ?hh _; case hh => first | (simp; done) | (simp; omega) | omega) | refine bstep (by assumption) (by first | (simp; done) | (simp; omega) | omega) ?_)), hY.below (by repeat (first | (with_reducible exact Below.refl _ _) | (with_reducible refine Below.drew ?_) | (with_reducible refine Below.alloc ?_ ?hh _; case hh => first | (simp; done) | (simp; omega) | omega) | (with_reducible refine Below.setCell ?_ ?hh _; case hh => first | (simp; done) | (simp; omega) | omega) | refine bstep (by assumption) (by first | (simp; done) | (simp; omega) | omega) ?_))⟩
        clear hKK
        refine takeYes (i := 21) (d := 51) (v := ?_) rfl rfl (by kernel_rfl) (by kernel_rfl) (by kernel_rfl) (fun _ _ _ h => h) (by rfl) (by assumption) ?_ ?_
        rotate_left
        · intro w' hSw; obtain ⟨⟨_, a0, a1, _⟩, ⟨_, x0, x1, _⟩, ⟨_, y0, y1, _⟩⟩ := hSw; go_simp; try exact rfl
        try simp only [List.setIfInBounds_toArray, List.set_cons_zero, List.set_cons_succ]
        refine takeYes (i := 22) (d := 52) (v := ?_) rfl rfl (by kernel_rfl) (by kernel_rfl) (by kernel_rfl) (fun _ _ _ h => h) (by rfl) (by assumption) ?_ ?_
        rotate_left
        · intro w' hSw; obtain ⟨⟨_, a0, a1, _⟩, ⟨_, x0, x1, _⟩, ⟨_, y0, y1, _⟩⟩ := hSw; go_simp; try exact rfl
        try simp only [List.setIfInBounds_toArray, List.set_cons_zero, List.set_cons_succ]
        refine takeYes (i := 23) (d := 53) (v := ?_) rfl rfl (by kernel_rfl) (by kernel_rfl) (by kernel_rfl) (fun _ _ _ h => h) (by rfl) (by assumption) ?_ ?_
        rotate_left
        · intro w' hSw; obtain ⟨⟨_, a0, a1, _⟩, ⟨_, x0, x1, _⟩, ⟨_, y0, y1, _⟩⟩ := hSw; go_simp; try exact rfl
        try simp only [List.setIfInBounds_toArray, List.set_cons_zero, List.set_cons_succ]
        refine takeYes (i := 24) (d := 54) (v := ?_) rfl rfl (by kernel_rfl) (by kernel_rfl) (by kernel_rfl) (fun _ _ _ h => h) (by rfl) (by assumption) ?_ ?_
        rotate_left
        · intro w' hSw; obtain ⟨⟨_, a0, a1, _⟩, ⟨_, x0, x1, _⟩, ⟨_, y0, y1, _⟩⟩ := hSw; go_simp; try exact rfl
        try simp only [List.setIfInBounds_toArray, List.set_cons_zero, List.set_cons_succ]
        refine takeYes (i := 25) (d := 55) (v := ?_) rfl rfl (by kernel_rfl) (by kernel_rfl) (by kernel_rfl) (fun _ _ _ h => h) (by rfl) (by assumption) ?_ ?_
        rotate_left
        · intro w' hSw; obtain ⟨⟨_, a0, a1, _⟩, ⟨_, x0, x1, _⟩, ⟨_, y0, y1, _⟩⟩ := hSw; go_simp; try exact rfl
        try simp only [List.setIfInBounds_toArray, List.set_cons_zero, List.set_cons_succ]
        refine takeYes (i := 27) (d := 57) (v := ?_) rfl rfl (by kernel_rfl) (by kernel_rfl) (by kernel_rfl) (fun _ _ _ h => h) (by rfl) (by assumption) ?_ ?_
        rotate_left
        · intro w' hSw; obtain ⟨⟨_, a0, a1, _⟩, ⟨_, x0, x1, _⟩, ⟨_, y0, y1, _⟩⟩ := hSw; go_simp; try exact rfl
        try simp only [List.setIfInBounds_toArray, List.set_cons_zero, List.set_cons_succ]
        refine wpAnyH_ready (rs := [26]) (by kernel_rfl) (by simp) ?_
        refine AllReadyH.cons rfl (fun KK hKK => ?_) AllReadyH.nil
        go_simp
        go_at_call 12
        refine Calls.mono (implBagText_any W (.slice au cs.length cu) cs _ hwf (hA.is.below (by repeat (first | (with_reducible exact Below.refl _ _) | (with_reducible refine Below.drew ?_) | (with_reducible refine Below.alloc ?_ ?hh _; case hh => first | (simp; done) | (simp; omega) | omega) | (with_reducible refine Below.setCell ?_ ?hh _; case hh => first | (simp; done) | (simp; omega) | omega) | refine bstep (by assumption) (by first | (simp; done) | (simp; omega) | omega) ?_))) (hE5.below (by repeat (first | (with_reducible exact Below.refl _ _) | (with_reducible refine Below.drew ?_) | (with_reducible refine Below.alloc ?_ ?hh _; case hh => first | (simp; done) | (simp; omega) | omega) | (with_reducible refine Below.setCell ?_ ?hh _; case hh => first | (simp; done) | (simp; omega) | omega) | refine bstep (by assumption) (by first | (simp; done) | (simp; omega) | omega) ?_)))) ?_
        rintro x w13 ⟨rfl, hb13⟩
        have hz13 := hb13.size
        (try simp at hz13)
        try go_wp2_with fail
        refine hKK.out _ _ ?_ (fun hHeld26 => ?_)
        · exact ⟨hA.below (by repeat (first | (with_reducible exact Below.refl _ _) | (with_reducible refine Below.drew ?_) | (with_reducible refine Below.alloc ?_ ?hh _; case hh => first | (simp; done) | (simp; omega) | omega) | (with_reducible refine Below.setCell ?_ ?hh _; case hh => first | (simp; done) | (simp; omega) | omega) | refine bstep (by assumption) (by first | (simp; done) | (simp; omega) | omega) ?_)), hX.below (by repeat (first | (with_reducible exact Below.refl _ _) | (with_reducible refine Below.drew ?_) | (with_reducible refine Below.alloc ?_ ?hh _; case hh => first | (simp; done) | (simp; omega) | omega) | (with_reducible refine Below.setCell ?_ ?hh _; case hh => first | (simp; done) | (simp; omega) | omega) | refine bstep (by assumption) (by first | (simp; done) | (simp; omega) | omega) ?_)), hY.below (by repeat (first | (with_reducible exact Below.refl _ _) | (with_reducible refine Below.drew ?_) | (with_reducible refine Below.alloc ?_ ?hh _; case hh => first | (simp; done) | (simp; omega) | omega) | (with_reducible refine Below.setCell ?_ ?hh _; case hh => first | (simp; done) | (simp; omega) | omega) | refine bstep (by assumption) (by first | (simp; done) | (simp; omega) | omega) ?_))⟩
        clear hKK
        refine wpAnyH_ready (rs := [28]) (by kernel_rfl) (by simp) ?_
        refine AllReadyH.cons rfl (fun KK hKK => ?_) AllReadyH.nil
        go_simp
        go_at_call 13
        refine Calls.mono (specBagText_any W (.slice au cs.length cu) cs _ hwf (hA.is.below (by repeat (first | (with_reducible exact Below.refl _ _) | (with_reducible refine Below.drew ?_) | (with_reducible refine Below.alloc ?_ ?hh _; case hh => first | (simp; done) | (simp; omega) | omega) | (with_reducible refine Below.setCell ?_ ?hh _; case hh => first | (simp; done) | (simp; omega) | omega) | refine bstep (by assumption) (by first | (simp; done) | (simp; omega) | omega) ?_)))) ?_
        rintro x w14 ⟨rfl, hb14⟩
        have hz14 := hb14.size
        (try simp at hz14)
        try go_wp2_with fail
        refine hKK.out _ _ ?_ (fun hHeld28 => ?_)
        · exact ⟨hA.below (by repeat (first | (with_reducible exact Below.refl _ _) | (with_reducible refine Below.drew ?_) | (with_reducible refine Below.alloc ?_ ?hh _; case hh => first | (simp; done) | (simp; omega) | omega) | (with_reducible refine Below.setCell ?_ ?hh _; case hh => first | (simp; done) | (simp; omega) | omega) | refine bstep (by assumption) (by first | (simp; done) | (simp; omega) | omega) ?_)), hX.below (by repeat (first | (with_reducible exact Below.refl _ _) | (with_reducible refine Below.drew ?_) | (with_reducible refine Below.alloc ?_ ?hh _; case hh => first | (simp; done) | (simp; omega) | omega) | (with_reducible refine Below.setCell ?_ ?hh _; case hh => first | (simp; done) | (simp; omega) | omega) | refine bstep (by assumption) (by first | (simp; done) | (simp; omega) | omega) ?_)), hY.below (by repeat (first | (with_reducible exact Below.refl _ _) | (with_reducible refine Below.drew ?_) | (with_reducible refine Below.alloc ?_ ?hh _; case hh => first | (simp; done) | (simp; omega) | omega) | (with_reducible refine Below.setCell ?_ ?hh _; case hh => first | (simp; done) | (simp; omega) | omega) | refine bstep (by assumption) (by first | (simp; done) | (simp; omega) | omega) ?_))⟩
        clear hKK
        refine takeYes (i := 29) (d := 59) (v := ?_) rfl rfl (by kernel_rfl) (by kernel_rfl) (by kernel_rfl) (fun _ _ _ h => h) (by rfl) (by assumption) ?_ ?_
        rotate_left
        · intro w' hSw; obtain ⟨⟨_, a0, a1, _⟩, ⟨_, x0, x1, _⟩, ⟨_, y0, y1, _⟩⟩ := hSw; go_simp; try exact rfl
        try simp only [List.setIfInBounds_toArray, List.set_cons_zero, List.set_cons_succ]
        refine takeYes (i := 30) (d := 60) (v := ?_) rfl rfl (by kernel_rfl) (by kernel_rfl) (by kernel_rfl) (fun _ _ _ h => h) (by rfl) (by assumption) ?_ ?_
        rotate_left
        · intro w' hSw; obtain ⟨⟨_, a0, a1, _⟩, ⟨_, x0, x1, _⟩, ⟨_, y0, y1, _⟩⟩ := hSw; go_simp; try exact rfl
        try simp only [List.setIfInBounds_toArray, List.set_cons_zero, List.set_cons_succ]
        refine wpAnyH_done (by kernel_rfl) ?_ _
        go_wp2_with fail
        (try go_meet)
        (try (case rel => exact ⟨rfl, by repeat (first | (with_reducible exact Below.refl _ _) | (with_reducible refine Below.drew ?_) | (with_reducible refine Below.alloc ?_ ?hh _; case hh => first | (simp; done) | (simp; omega) | omega) | (with_reducible refine Below.setCell ?_ ?hh _; case hh => first | (simp; done) | (simp; omega) | omega) | refine bstep (by assumption) (by first | (simp; done) | (simp; omega) | omega) ?_)⟩))
    case rest =>
      as_aux_lemma =>
        obtain ⟨rfl, hbL⟩ := hcut
        replace hA := hA.below hbL
        replace hbw : Below w.heap.size w wc := hbw.trans (hbL.mono hzw)
        replace hzw := hbw.size
        clear hbL hX hY HG SP hE5 wa
        cases hok : okBag W cs
        · have hs0 : s0 = ⟨#[]⟩ := HN.out hok
          subst hs0
          obtain ⟨_, a0, a1, isA⟩ := hA
          go_wp2_with fail
          refine (specBagOk_any W (.slice au cs.length cu) cs _ hwf isA).mono ?_
          rintro x w30 ⟨rfl, hb30⟩
          rw [hok]
          go_wp2
          go_returns
          exact ⟨rfl, by repeat (first | (with_reducible exact Below.refl _ _) | (with_reducible refine Below.drew ?_) | (with_reducible refine Below.alloc ?_ ?hh _; case hh => first | (simp; done) | (simp; omega) | omega) | (with_reducible refine Below.setCell ?_ ?hh _; case hh => first | (simp; done) | (simp; omega) | omega) | refine bstep (by assumption) (by first | (simp; done) | (simp; omega) | omega) ?_)⟩
        obtain ⟨hpos, e1, e2, e3⟩ := HO.out hok
        have hne : (s0.toList == []) = false := by
          rw [ByteArray.toList_eq]
          have : s0.data.toList.length = s0.size := rfl
          cases h : s0.data.toList with
          | nil => rw [h] at this; simp at this; omega
          | cons => rfl
        have IH := IG.out
        rw [e1, e2, e3] at IH
        have IG2 : Hid _ := IH
        clear IH IG HO HN hpos e1 e2 e3 hok
        go_wp2_with fail
        refine (IG2.out _).mono ?_
        rintro x w31 ⟨⟨u6, us6, G6, rfl, hB6⟩, hb31⟩
        obtain ⟨gz, hz, rfl⟩ := hB6.shape
        obtain ⟨F6, hF6, _⟩ := hB6.rowsF
        have isZ := hF6.is
        clear hF6 hB6
        replace hA := hA.below hb31
        replace hbw : Below w.heap.size w w31 := hbw.trans (hb31.mono hzw)
        replace hzw := hbw.size
        clear hb31
        have hZ := VB.new w31 W (.slice gz cs.length hz) cs isZ
        replace hA := hA.alloc (.cells #[.int .i64 W, (.slice gz cs.length hz)] 26)
        replace hbw : Below w.heap.size w (w31.alloc (.cells #[.int .i64 W, (.slice gz cs.length hz)] 26)) := hbw.trans ((Below.refl _ _).alloc hzw _)
        replace hzw := hbw.size
        have qA := hA
        obtain ⟨_, a0, a1, _⟩ := qA
        have qZ := hZ
        obtain ⟨_, z0, z1, _⟩ := qZ
        go_wp2_with fail
        refine (sameBag_any W (.slice gz cs.length hz) (.slice au cs.length cu) cs _ (hZ.is.below (by repeat (first | (with_reducible exact Below.refl _ _) | (with_reducible refine Below.drew ?_) | (with_reducible refine Below.alloc ?_ ?hh _; case hh => first | (simp; done) | (simp; omega) | omega) | (with_reducible refine Below.setCell ?_ ?hh _; case hh => first | (simp; done) | (simp; omega) | omega) | refine bstep (by assumption) (by first | (simp; done) | (simp; omega) | omega) ?_))) (hA.is.below (by repeat (first | (with_reducible exact Below.refl _ _) | (with_reducible refine Below.drew ?_) | (with_reducible refine Below.alloc ?_ ?hh _; case hh => first | (simp; done) | (simp; omega) | omega) | (with_reducible refine Below.setCell ?_ ?hh _; case hh => first | (simp; done) | (simp; omega) | omega) | refine bstep (by assumption) (by first | (simp; done) | (simp; omega) | omega) ?_)))).mono ?_
        rintro x w32 ⟨rfl, hb32⟩
        replace hbw := hbw.trans (hb32.mono hzw)
        go_wp2
        go_returns
        exact ⟨rfl, hbw⟩
end Go.Proofs.YtiaafgmjigbjlaaGreatDoor.fnBagBytes
/- Own text. The walk of FnBagBytes, of any bytes. -/
namespace Go.Proofs.YtiaafgmjigbjlaaGreatDoor.fnBagBytes
open Go.RowKit Go.Deep
set_option linter.unusedVariables false
set_option maxHeartbeats 2000000 in
theorem big_wide (a : Option Addr) (l c : Nat) (w : World) (hl : l ≤ 9223372036854775807) : Calls Tryz.prog 4 #[.slice a l c] w fun e w' => e = .returned (.bool (decide ((1048576 : Int) < l))) ∧ w' = w := by
  go_enter Tryz.func4, Tryz.ntmps4
  go_wp2
  go_returns
  exact ⟨rfl, rfl⟩
set_option maxHeartbeats 2000000 in
set_option maxRecDepth 100000 in
theorem walk (v : Value) (w : World) (h : ∃ (a : Option Addr) (l c : Nat), v = .slice a l c ∧ l ≤ c ∧ c ≤ maxLen ∧ ∀ j, j < l → ∃ b o, a = some ⟨b, o, none⟩ ∧ b < w.heap.size ∧ ∃ x : Int, 0 ≤ x ∧ x ≤ 255 ∧ w.cell? ⟨b, o + j, none⟩ = some (.int .u8 x)) (hE : Env w) :
    Calls Tryz.prog 3 #[v] w fun x w' => x = .returned (.bool true) ∧ Below w.heap.size w w' := by
  obtain ⟨a, l, c, rfl, hlc, hc, hb⟩ := h
  by_cases hl : l ≤ 1048576
  · exact walk_small a l c w ⟨a, c, rfl, hlc, hl, hb⟩ hE
  have hd : decide ((1048576 : Int) < l) = true := by simp; omega
  unfold maxLen at hc
  clear hE hb
  go_enter Tryz.func3, Tryz.ntmps3
  go_wp2_with fail
  refine (big_wide a l c _ (by omega)).mono ?_
  rintro x w ⟨rfl, rfl⟩
  rw [hd]
  clear hd
  go_wp2
  go_returns
  exact ⟨rfl, Below.refl _ _⟩
end Go.Proofs.YtiaafgmjigbjlaaGreatDoor.fnBagBytes
