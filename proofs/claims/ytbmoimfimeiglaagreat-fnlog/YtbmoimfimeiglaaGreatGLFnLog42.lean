/- Own texts, joined: contracts that the law's proof goes by. -/
import Derived.Test.YtbmoimfimeiglaaGreatGLFnLog41
import Derived.Handy
import Derived.Deep.RegionHeld3
import Derived.Test.YtbmoimfimeiglaaGreatGLFnLog1
import Derived.Test.YtbmoimfimeiglaaGreatGLFnLog48
import Derived.Test.YtbmoimfimeiglaaGreatGLFnLog47
import Derived.Test.YtbmoimfimeiglaaGreatGLFnLog31
import Derived.Test.YtbmoimfimeiglaaGreatGLFnLog7
import Derived.Test.YtbmoimfimeiglaaGreatGLFnLog33
namespace Go.Proofs.YtbmoimfimeiglaaGreat
open Go.RowKit Go.Deep
set_option linter.unusedVariables false
def StpOwn (w : World) (N : Nat) (uc ur : Value) (x : T5) (g F : List Nat) : Prop := StrsF w uc x.cs g ∧ RelsF w ur x.rs F ∧ Own w N g ∧ Own w N F ∧ ∀ b ∈ g, b ∉ F
theorem StpOwn.is {w : World} {N : Nat} {uc ur : Value} {x : T5} {g F : List Nat} (h : StpOwn w N uc ur x g F) : StpIs w uc ur x := ⟨⟨g, h.1⟩, h.2.1.is⟩
theorem StpOwn.below {w w' : World} {N : Nat} {uc ur : Value} {x : T5} {g F : List Nat} (h : StpOwn w N uc ur x g F) (hb : Below w.heap.size w w') : StpOwn w' N uc ur x g F :=
  ⟨h.1.below hb, h.2.1.below hb, h.2.2.1.below h.1.lt hb, h.2.2.2.1.below h.2.1.lt hb, h.2.2.2.2⟩
theorem StpOwn.keep {w w' : World} {N : Nat} {uc ur : Value} {x : T5} {g F : List Nat} (h : StpOwn w N uc ur x g F) (hs : w.heap.size ≤ w'.heap.size) (hb : ∀ b, N ≤ b → b < w.heap.size → w'.heap[b]? = w.heap[b]?) : StpOwn w' N uc ur x g F :=
  have k1 : ∀ b ∈ g, w'.heap[b]? = w.heap[b]? := fun b hg => hb b (h.2.2.1.2.1 b hg) (h.1.lt b hg)
  have k2 : ∀ b ∈ F, w'.heap[b]? = w.heap[b]? := fun b hg => hb b (h.2.2.2.1.2.1 b hg) (h.2.1.lt b hg)
  ⟨h.1.keep hs k1, h.2.1.keep hs k2, h.2.2.1.keep k1, h.2.2.2.1.keep k2, h.2.2.2.2⟩
theorem StpOwn.weak {w : World} {N M : Nat} {uc ur : Value} {x : T5} {g F : List Nat} (h : StpOwn w N uc ur x g F) (hM : M ≤ N) : StpOwn w M uc ur x g F :=
  ⟨h.1, h.2.1, ⟨h.2.2.1.1, fun b hb => Nat.le_trans hM (h.2.2.1.2.1 b hb), h.2.2.1.2.2⟩, ⟨h.2.2.2.1.1, fun b hb => Nat.le_trans hM (h.2.2.2.1.2.1 b hb), h.2.2.2.1.2.2⟩, h.2.2.2.2⟩
theorem five_far {w2 : World} {R : Nat} (a b c d e : Value) (L : Array Value) {k : Nat} (hk : k ≠ R) (hl : k < w2.heap.size) : ((((((w2.setCell ⟨R, 0, none⟩ a).setCell ⟨R, 1, none⟩ b).setCell ⟨R, 2, none⟩ c).setCell ⟨R, 3, none⟩ d).setCell ⟨R, 4, none⟩ e).alloc (.cells L 27)).heap[k]? = w2.heap[k]? := by
  rw [heap_alloc_old _ _ (by simpa using hl)]
  iterate 5 rw [Below.heap_setCell _ _ _ _ (by simpa using hk)]
theorem StpOwn.nil (w : World) (N : Nat) : StpOwn w N (.slice none 0 0) (.slice none 0 0) zT [] [] := by
  refine ⟨⟨none, 0, rfl, Nat.le_refl _, by simp [maxLen], fun _ => rfl, fun x => absurd rfl x⟩, ⟨none, 0, [], rfl, Nat.le_refl _, by simp [maxLen], fun _ => rfl, rfl, fun _ => rfl, fun x => absurd rfl x⟩, by simp [Own, Free], by simp [Own, Free], fun b hb => by cases hb⟩
theorem Stepped.own {w w' : World} {C E : Nat} {s : ByteArray} {e : Nat} {q : Nat × Bool} {xs : List Int} {uc ur : Value} (h : Stepped w w' C E s e q xs uc ur) : ∃ g F, StpOwn w' w.heap.size uc ur (sX s e q) g F := by
  obtain ⟨us, G, M, h1, h2, h3, h4, _, _⟩ := h
  obtain ⟨g, hg, hOg, hub⟩ := strs_own h1
  obtain ⟨F, hF, hOF⟩ := h2.relsF
  exact ⟨g, F, hg, hF, hOg, ⟨hOF.1, fun b hb => Nat.le_trans h3 (hOF.2.1 b hb), hOF.2.2⟩, fun b hb hb2 => by have := h4 b (hub b hb); have := hOF.2.1 b hb2; omega⟩
set_option maxHeartbeats 4000000 in
set_option maxRecDepth 100000 in
theorem implGetStep_any (s : ByteArray) (w : World) (hs : s.size ≤ 1048576) :
    Calls Tryz.prog 10 #[.string s] w fun r w' => (∃ uc ur g F, r = .returned (.tuple #[.agg #[.int .i64 (gT s).k, .string (gT s).s, uc, .string (gT s).q, ur], .bool (gO s)]) ∧ StpOwn w' w.heap.size uc ur (gT s) g F) ∧ Below w.heap.size w w' := by
  have T2 : ∀ (C E cap : Nat) (wz : World), Ct wz C E cap s (0, false) [(s.size : Int)] → Calls Tryz.prog 35 #[.pointer (some ⟨C, 0, none⟩)] wz fun r w' => ∃ uc ur, r = .returned (.tuple #[.agg #[.int .i64 (sX s s.size (0, false)).k, .string (sX s s.size (0, false)).s, uc, .string (sX s s.size (0, false)).q, ur], .bool (gO s)]) ∧ Stepped wz w' C E s s.size (0, false) [] uc ur :=
    fun C E cap wz hz => step_any C E cap s (0, false) [] s.size wz hz (Nat.zero_le _) (Nat.le_refl _) hs (Nat.zero_le _)
  go_enter Tryz.func10, Tryz.ntmps10
  go_wp2_with (first | (go_at_call 25; with_reducible refine Calls.mono (cutterOf_any s _ hs) ?_) | fail)
  rintro r w1 ⟨rfl, E, cap, hC, hb1, hE⟩
  simp only [World.size_alloc] at hE hC hb1
  have hz1 := hb1.size
  simp only [World.size_alloc] at hz1
  have hCl := hC.ltC
  have hEl := hC.ltE
  rw [World.size_alloc]
  go_wp2_with (first | (go_at_call 35; with_reducible refine Calls.mono (T2 _ E cap _ hC) ?_) | fail)
  rintro r w2 ⟨uc, ur, rfl, hSt⟩
  obtain ⟨g, F, hO⟩ := hSt.own
  obtain ⟨_, _, _, _, _, _, _, _, hK⟩ := hSt
  have hz2 := hK.size
  have hR2 : w2.heap[w.heap.size]? = some (.cells #[.int .i64 0, .string ⟨#[]⟩, .slice none 0 0, .string ⟨#[]⟩, .slice none 0 0] 27 (0, 0)) := (hK.block _ (by omega) (by omega) (by omega)).trans ((hb1.block _ (by simp)).trans (heap_alloc_new w _))
  have hbw : Below w.heap.size w w2 := ⟨hK.os.trans hb1.os, hK.tape.trans hb1.tape, hK.output.trans hb1.output, by omega, fun k hk => (hK.block k (by omega) (by omega) (by omega)).trans ((hb1.block k (by omega)).trans (heap_alloc_old w _ hk))⟩
  have hs1 := hO.1.shape
  have hs2 : ∃ a c, ur = .slice a (sX s s.size (0, false)).rs.length c := by
    obtain ⟨a, c, _, h, _⟩ := hO.2.1
    exact ⟨a, c, h⟩
  obtain ⟨ac, cc, rfl, _, _⟩ := hs1
  obtain ⟨ar, cr, rfl⟩ := hs2
  have hR2l := heap_lt hR2
  have b0 : w2.cell? ⟨w.heap.size, 0, none⟩ = some (.int .i64 0) := by rw [Lib.cell_of_heap hR2]; rfl
  have b1 : w2.cell? ⟨w.heap.size, 1, none⟩ = some (.string ⟨#[]⟩) := by rw [Lib.cell_of_heap hR2]; rfl
  have b2 : w2.cell? ⟨w.heap.size, 2, none⟩ = some (.slice none 0 0) := by rw [Lib.cell_of_heap hR2]; rfl
  have b3 : w2.cell? ⟨w.heap.size, 3, none⟩ = some (.string ⟨#[]⟩) := by rw [Lib.cell_of_heap hR2]; rfl
  have b4 : w2.cell? ⟨w.heap.size, 4, none⟩ = some (.slice none 0 0) := by rw [Lib.cell_of_heap hR2]; rfl
  have bf : ∀ i, w2.frozen? ⟨w.heap.size, i, none⟩ = false := fun i => Lib.frozen_of_heap hR2 i
  have HO : Hid (StpOwn w2 (w.heap.size + 1) (.slice ac (sX s s.size (0, false)).cs.length cc) (.slice ar (sX s s.size (0, false)).rs.length cr) (sX s s.size (0, false)) g F) := ⟨hO.1, hO.2.1, ⟨hO.2.2.1.1, fun b hb => by have := hO.2.2.1.2.1 b hb; omega, hO.2.2.1.2.2⟩, ⟨hO.2.2.2.1.1, fun b hb => by have := hO.2.2.2.1.2.1 b hb; omega, hO.2.2.2.1.2.2⟩, hO.2.2.2.2⟩
  have HB : Hid (Below w.heap.size w w2) := hbw
  clear hO hbw hK hR2 hb1 T2 hC
  have HG : Hid (gT s = if gO s = true then sX s s.size (0, false) else zT) := rfl
  generalize (sX s s.size (0, false)).cs.length = nc at *
  generalize (sX s s.size (0, false)).rs.length = nr at *
  have HF : Hid (∀ (a b c d e : Value) (L : Array Value), Below w.heap.size w ((((((w2.setCell ⟨w.heap.size, 0, none⟩ a).setCell ⟨w.heap.size, 1, none⟩ b).setCell ⟨w.heap.size, 2, none⟩ c).setCell ⟨w.heap.size, 3, none⟩ d).setCell ⟨w.heap.size, 4, none⟩ e).alloc (.cells L 27)) ∧ StpOwn ((((((w2.setCell ⟨w.heap.size, 0, none⟩ a).setCell ⟨w.heap.size, 1, none⟩ b).setCell ⟨w.heap.size, 2, none⟩ c).setCell ⟨w.heap.size, 3, none⟩ d).setCell ⟨w.heap.size, 4, none⟩ e).alloc (.cells L 27)) w.heap.size (.slice ac nc cc) (.slice ar nr cr) (sX s s.size (0, false)) g F) := by
    intro a b c d e L
    have hB := HB.out
    have hz := hB.size
    have hsz : ((((((w2.setCell ⟨w.heap.size, 0, none⟩ a).setCell ⟨w.heap.size, 1, none⟩ b).setCell ⟨w.heap.size, 2, none⟩ c).setCell ⟨w.heap.size, 3, none⟩ d).setCell ⟨w.heap.size, 4, none⟩ e).alloc (.cells L 27)).heap.size = w2.heap.size + 1 := by simp
    refine ⟨⟨hB.os, hB.tape, hB.output, by omega, fun k hk => (five_far a b c d e L (by omega) (by omega)).trans (hB.block k hk)⟩, ?_⟩
    exact (HO.out.keep (by omega) fun k h1 h2 => five_far a b c d e L (by omega) h2).weak (by omega)
  clear HO HB
  cases hg : gO s
  · have HZ : Hid (gT s = zT) := by rw [hg] at HG; exact HG
    go_wp2
    refine bodyPost_ret (v := .tuple #[.agg #[.int .i64 0, .string ⟨#[]⟩, .slice none 0 0, .string ⟨#[]⟩, .slice none 0 0], .bool false]) (by simp [results, Tryz.results10, go_sem, *]) rfl ⟨⟨.slice none 0 0, .slice none 0 0, [], [], (by rw [HZ.out, hg]; try rfl), by rw [HZ.out]; exact StpOwn.nil _ _⟩, (HF.out _ _ _ _ _ _).1⟩
  · have HZ : Hid (gT s = sX s s.size (0, false)) := by rw [hg] at HG; exact HG
    go_wp2
    refine bodyPost_ret (v := .tuple #[.agg #[.int .i64 (sX s s.size (0, false)).k, .string (sX s s.size (0, false)).s, .slice ac nc cc, .string (sX s s.size (0, false)).q, .slice ar nr cr], .bool true]) (by simp [results, Tryz.results10, go_sem, *]) rfl ⟨⟨.slice ac nc cc, .slice ar nr cr, g, F, (by rw [HZ.out, hg]; try rfl), by rw [HZ.out]; exact (HF.out _ _ _ _ _ _).2⟩, (HF.out _ _ _ _ _ _).1⟩
end Go.Proofs.YtbmoimfimeiglaaGreat
namespace Go.Proofs.YtbmoimfimeiglaaGreat
open Go.RowKit
set_option linter.unusedVariables false
theorem results_ct {fn : Func} {a u : Tmp} {t : TypeId} (h : fn.results = #[.cell a t, .tmp u]) (tmps : Array Value) (P : Program) (w : World) (v : Value) (p : Addr) (hp : tmps.getD a undef = .pointer (some p)) (hl : (loadVar t p).run P w = .ok v w) : (results fn tmps).run P w = .ok (.tuple #[v, tmps.getD u undef]) w := by
  have hp2 : tmps[a]?.getD undef = .pointer (some p) := by rw [← hp]; simp
  simp [results, h, hp2, hl, asAddr]
theorem results_c {fn : Func} {a : Tmp} {t : TypeId} (h : fn.results = #[.cell a t]) (tmps : Array Value) (P : Program) (w : World) (v : Value) (p : Addr) (hp : tmps.getD a undef = .pointer (some p)) (hl : (loadVar t p).run P w = .ok v w) : (results fn tmps).run P w = .ok v w := by
  have hp2 : tmps[a]?.getD undef = .pointer (some p) := by rw [← hp]; simp
  simp [results, h, hp2, hl, asAddr]
theorem setB {w : World} {P i : Nat} {cs : Array Value} {v : Value} {t : TypeId} (h : w.heap[P]? = some (.cells cs t (0, 0))) : (w.setCell ⟨P, i, none⟩ v).heap[P]? = some (.cells (cs.setIfInBounds i v) t (0, 0)) := by
  simp [World.setCell, Array.getElem?_modify, h]
end Go.Proofs.YtbmoimfimeiglaaGreat
namespace Go.Proofs.YtbmoimfimeiglaaGreat
open Go.RowKit Go.Deep Go.ChangeShapes Go.WideShapes
set_option linter.unusedVariables false
structure StD (x : T5) : Prop where
  k0 : -1 ≤ x.k
  k1 : x.k ≤ 4
  s : x.s.size ≤ 11
  cl : x.cs.length ≤ 3
  c : ∀ c ∈ x.cs, c.size ≤ 1
  q : x.q.size ≤ 400
  rl : x.rs.length ≤ 4
  r : ∀ r ∈ x.rs, ChR r
  cb : chB x.rs ≤ 12760
theorem StD.setK {k k' : Int} {s q : ByteArray} {cs : List ByteArray} {rs : List R3} (h : StD ⟨k, s, cs, q, rs⟩) (h0 : -1 ≤ k') (h1 : k' ≤ 4) : StD ⟨k', s, cs, q, rs⟩ := ⟨h0, h1, h.s, h.cl, h.c, h.q, h.rl, h.r, h.cb⟩
theorem StD.setS {k : Int} {s s' q : ByteArray} {cs : List ByteArray} {rs : List R3} (h : StD ⟨k, s, cs, q, rs⟩) (h0 : s'.size ≤ 11) : StD ⟨k, s', cs, q, rs⟩ := ⟨h.k0, h.k1, h0, h.cl, h.c, h.q, h.rl, h.r, h.cb⟩
theorem StpOwn.nil' (w : World) (N : Nat) (k : Int) : StpOwn w N (.slice none 0 0) (.slice none 0 0) ⟨k, ⟨#[]⟩, [], ⟨#[]⟩, []⟩ [] [] := by
  refine ⟨⟨none, 0, rfl, Nat.le_refl _, by simp [maxLen], fun _ => rfl, fun x => absurd rfl x⟩, ⟨none, 0, [], rfl, Nat.le_refl _, by simp [maxLen], fun _ => rfl, rfl, fun _ => rfl, fun x => absurd rfl x⟩, by simp [Own, Free], by simp [Own, Free], fun b hb => by cases hb⟩
theorem cells5 {w : World} {b : Nat} {a0 a1 a2 a3 a4 : Value} {t : TypeId} (h : w.heap[b]? = some (.cells #[a0, a1, a2, a3, a4] t (0, 0))) : w.cell? ⟨b, 0, none⟩ = some a0 ∧ w.cell? ⟨b, 1, none⟩ = some a1 ∧ w.cell? ⟨b, 2, none⟩ = some a2 ∧ w.cell? ⟨b, 3, none⟩ = some a3 ∧ w.cell? ⟨b, 4, none⟩ = some a4 ∧ ∀ i, w.frozen? ⟨b, i, none⟩ = false :=
  ⟨by rw [Lib.cell_of_heap h]; rfl, by rw [Lib.cell_of_heap h]; rfl, by rw [Lib.cell_of_heap h]; rfl, by rw [Lib.cell_of_heap h]; rfl, by rw [Lib.cell_of_heap h]; rfl, fun i => Lib.frozen_of_heap h i⟩
theorem load5s {w : World} {R : Nat} {a0 a1 a2 a3 a4 : Value} (c0 : w.cell? ⟨R, 0, none⟩ = some a0) (c1 : w.cell? ⟨R, 1, none⟩ = some a1) (c2 : w.cell? ⟨R, 2, none⟩ = some a2) (c3 : w.cell? ⟨R, 3, none⟩ = some a3) (c4 : w.cell? ⟨R, 4, none⟩ = some a4) : (loadVar 27 ⟨R, 0, none⟩).run Tryz.prog w = .ok (.agg #[a0, a1, a2, a3, a4]) w := by
  simp [go_sem, c0, c1, c2, c3, c4]
structure StW (w wr : World) (S B : Nat) (v : Value) (l : Nat) (k : Int) (s : ByteArray) (cs : List ByteArray) (q : ByteArray) (rs : List R3) (uc ur : Value) (g F : List Nat) : Prop where
  sb : wr.heap[S]? = some (.cells #[.int .i64 k, .string s, uc, .string q, ur] 27 (0, 0))
  rb : wr.heap[w.heap.size]? = some (.cells #[.int .i64 0, .string ⟨#[]⟩, .slice none 0 0, .string ⟨#[]⟩, .slice none 0 0] 27 (0, 0))
  sl : w.heap.size < S
  own : StpOwn wr (S + 1) uc ur ⟨k, s, cs, q, rs⟩ g F
  D : Drew B v l w wr
section
variable {w wr wn : World} {S B : Nat} {v : Value} {l : Nat} {k : Int} {s : ByteArray} {cs : List ByteArray} {q : ByteArray} {rs : List R3} {uc ur : Value} {g F : List Nat}
theorem StW.slt (h : StW w wr S B v l k s cs q rs uc ur g F) : S < wr.heap.size := heap_ltA h.sb
theorem StW.rlt (h : StW w wr S B v l k s cs q rs uc ur g F) : w.heap.size < wr.heap.size := heap_ltA h.rb
theorem StW.drew (h : StW w wr S B v l k s cs q rs uc ur g F) (hd : Drew B v l wr wn) : StW w wn S B v l k s cs q rs uc ur g F := by
  have hB := h.D.lt
  have hs := h.sl
  exact ⟨hd.cellsB h.sb (by omega), hd.cellsB h.rb (by omega), h.sl, h.own.keep hd.chg.size fun b h1 h2 => hd.old h2 (by omega), h.D.trans hd⟩
theorem StW.below (h : StW w wr S B v l k s cs q rs uc ur g F) (hb : Below wr.heap.size wr wn) : StW w wn S B v l k s cs q rs uc ur g F :=
  ⟨(hb.block _ h.slt).trans h.sb, (hb.block _ h.rlt).trans h.rb, h.sl, h.own.below hb, h.D.below hb⟩
theorem StpOwn.setS {i : Nat} {a : Value} {x : T5} (h : StpOwn wr (S + 1) uc ur x g F) : StpOwn (wr.setCell ⟨S, i, none⟩ a) (S + 1) uc ur x g F := h.keep (by simp) fun b h1 _ => Below.heap_setCell _ _ _ _ (by simp; omega)
theorem StW.set0 (h : StW w wr S B v l k s cs q rs uc ur g F) (k' : Int) : StW w (wr.setCell ⟨S, 0, none⟩ (.int .i64 k')) S B v l k' s cs q rs uc ur g F :=
  have hs := h.sl
  ⟨setB (i := 0) h.sb, (Below.heap_setCell _ _ _ _ (by simp; omega)).trans h.rb, h.sl, StpOwn.setS (x := ⟨k', s, cs, q, rs⟩) h.own, h.D.set (p := ⟨S, 0, none⟩) (by simp; omega) _⟩
theorem StW.set1 (h : StW w wr S B v l k s cs q rs uc ur g F) (s' : ByteArray) : StW w (wr.setCell ⟨S, 1, none⟩ (.string s')) S B v l k s' cs q rs uc ur g F :=
  have hs := h.sl
  ⟨setB (i := 1) h.sb, (Below.heap_setCell _ _ _ _ (by simp; omega)).trans h.rb, h.sl, StpOwn.setS (x := ⟨k, s', cs, q, rs⟩) h.own, h.D.set (p := ⟨S, 1, none⟩) (by simp; omega) _⟩
theorem StW.set3 (h : StW w wr S B v l k s cs q rs uc ur g F) (q' : ByteArray) : StW w (wr.setCell ⟨S, 3, none⟩ (.string q')) S B v l k s cs q' rs uc ur g F :=
  have hs := h.sl
  ⟨setB (i := 3) h.sb, (Below.heap_setCell _ _ _ _ (by simp; omega)).trans h.rb, h.sl, StpOwn.setS (x := ⟨k, s, cs, q', rs⟩) h.own, h.D.set (p := ⟨S, 3, none⟩) (by simp; omega) _⟩
theorem StW.set2 (h : StW w wr S B v l k s cs q rs uc ur g F) (uc' : Value) (cs' : List ByteArray) (g' : List Nat) (h1 : StrsF wr uc' cs' g') (h2 : Own wr (S + 1) g') (h3 : ∀ b ∈ g', b ∉ F) : StW w (wr.setCell ⟨S, 2, none⟩ uc') S B v l k s cs' q rs uc' ur g' F :=
  have hs := h.sl
  ⟨setB (i := 2) h.sb, (Below.heap_setCell _ _ _ _ (by simp; omega)).trans h.rb, h.sl, StpOwn.setS (x := ⟨k, s, cs', q, rs⟩) ⟨h1, h.own.2.1, h2, h.own.2.2.2.1, h3⟩, h.D.set (p := ⟨S, 2, none⟩) (by simp; omega) _⟩
theorem StW.set4 (h : StW w wr S B v l k s cs q rs uc ur g F) (ur' : Value) (rs' : List R3) (F' : List Nat) (h1 : RelsF wr ur' rs' F') (h2 : Own wr (S + 1) F') (h3 : ∀ b ∈ g, b ∉ F') : StW w (wr.setCell ⟨S, 4, none⟩ ur') S B v l k s cs q rs' uc ur' g F' :=
  have hs := h.sl
  ⟨setB (i := 4) h.sb, (Below.heap_setCell _ _ _ _ (by simp; omega)).trans h.rb, h.sl, StpOwn.setS (x := ⟨k, s, cs, q, rs'⟩) ⟨h.own.1, h1, h.own.2.2.1, h2, h3⟩, h.D.set (p := ⟨S, 4, none⟩) (by simp; omega) _⟩
theorem StW.fin (h : StW w wr S B v l k s cs q rs uc ur g F) :
    (((((wr.setCell ⟨w.heap.size, 0, none⟩ (.int .i64 k)).setCell ⟨w.heap.size, 1, none⟩ (.string s)).setCell ⟨w.heap.size, 2, none⟩ uc).setCell ⟨w.heap.size, 3, none⟩ (.string q)).setCell ⟨w.heap.size, 4, none⟩ ur).cell? ⟨w.heap.size, 0, none⟩ = some (.int .i64 k) ∧
    (((((wr.setCell ⟨w.heap.size, 0, none⟩ (.int .i64 k)).setCell ⟨w.heap.size, 1, none⟩ (.string s)).setCell ⟨w.heap.size, 2, none⟩ uc).setCell ⟨w.heap.size, 3, none⟩ (.string q)).setCell ⟨w.heap.size, 4, none⟩ ur).cell? ⟨w.heap.size, 1, none⟩ = some (.string s) ∧
    (((((wr.setCell ⟨w.heap.size, 0, none⟩ (.int .i64 k)).setCell ⟨w.heap.size, 1, none⟩ (.string s)).setCell ⟨w.heap.size, 2, none⟩ uc).setCell ⟨w.heap.size, 3, none⟩ (.string q)).setCell ⟨w.heap.size, 4, none⟩ ur).cell? ⟨w.heap.size, 2, none⟩ = some uc ∧
    (((((wr.setCell ⟨w.heap.size, 0, none⟩ (.int .i64 k)).setCell ⟨w.heap.size, 1, none⟩ (.string s)).setCell ⟨w.heap.size, 2, none⟩ uc).setCell ⟨w.heap.size, 3, none⟩ (.string q)).setCell ⟨w.heap.size, 4, none⟩ ur).cell? ⟨w.heap.size, 3, none⟩ = some (.string q) ∧
    (((((wr.setCell ⟨w.heap.size, 0, none⟩ (.int .i64 k)).setCell ⟨w.heap.size, 1, none⟩ (.string s)).setCell ⟨w.heap.size, 2, none⟩ uc).setCell ⟨w.heap.size, 3, none⟩ (.string q)).setCell ⟨w.heap.size, 4, none⟩ ur).cell? ⟨w.heap.size, 4, none⟩ = some ur ∧
    StpOwn (((((wr.setCell ⟨w.heap.size, 0, none⟩ (.int .i64 k)).setCell ⟨w.heap.size, 1, none⟩ (.string s)).setCell ⟨w.heap.size, 2, none⟩ uc).setCell ⟨w.heap.size, 3, none⟩ (.string q)).setCell ⟨w.heap.size, 4, none⟩ ur) w.heap.size uc ur ⟨k, s, cs, q, rs⟩ g F ∧
    Drew B v l w (((((wr.setCell ⟨w.heap.size, 0, none⟩ (.int .i64 k)).setCell ⟨w.heap.size, 1, none⟩ (.string s)).setCell ⟨w.heap.size, 2, none⟩ uc).setCell ⟨w.heap.size, 3, none⟩ (.string q)).setCell ⟨w.heap.size, 4, none⟩ ur) := by
  have hs := h.sl
  have hb : (((((wr.setCell ⟨w.heap.size, 0, none⟩ (.int .i64 k)).setCell ⟨w.heap.size, 1, none⟩ (.string s)).setCell ⟨w.heap.size, 2, none⟩ uc).setCell ⟨w.heap.size, 3, none⟩ (.string q)).setCell ⟨w.heap.size, 4, none⟩ ur).heap[w.heap.size]? = some (.cells #[.int .i64 k, .string s, uc, .string q, ur] 27 (0, 0)) := setB (i := 4) (setB (i := 3) (setB (i := 2) (setB (i := 1) (setB (i := 0) h.rb))))
  obtain ⟨c0, c1, c2, c3, c4, _⟩ := cells5 hb
  refine ⟨c0, c1, c2, c3, c4, (h.own.keep (by simp) fun b h1 _ => ?_).weak (by omega), ((((h.D.set (p := ⟨w.heap.size, 0, none⟩) (Nat.le_refl _) _).set (p := ⟨w.heap.size, 1, none⟩) (Nat.le_refl _) _).set (p := ⟨w.heap.size, 2, none⟩) (Nat.le_refl _) _).set (p := ⟨w.heap.size, 3, none⟩) (Nat.le_refl _) _).set (p := ⟨w.heap.size, 4, none⟩) (Nat.le_refl _) _⟩
  iterate 5 rw [Below.heap_setCell _ _ _ _ (by simp; omega)]
end
def StOut (B : Nat) (v : Value) (l : Nat) (w : World) (e : Ending) (w' : World) : Prop := (∃ (x : T5) (uc ur : Value) (g F : List Nat), e = .returned (.agg #[.int .i64 x.k, .string x.s, uc, .string x.q, ur]) ∧ StpOwn w' w.heap.size uc ur x g F ∧ StD x) ∧ Drew B v l w w'
theorem StOut.of {B : Nat} {v : Value} {l : Nat} {w w' : World} {k : Int} {s q : ByteArray} {cs : List ByteArray} {rs : List R3} {uc ur : Value} {g F : List Nat} (h : StpOwn w' w.heap.size uc ur ⟨k, s, cs, q, rs⟩ g F) (hX : StD ⟨k, s, cs, q, rs⟩) (hD : Drew B v l w w') : StOut B v l w (.returned (.agg #[.int .i64 k, .string s, uc, .string q, ur])) w' :=
  ⟨⟨⟨k, s, cs, q, rs⟩, uc, ur, g, F, rfl, h, hX⟩, hD⟩
theorem strs_blk {w : World} {b : Nat} {cs : List ByteArray} {t : TypeId} (h : w.heap[b]? = some (.cells (cs.map Value.string).toArray t (0, 0))) (hl : cs.length ≤ maxLen) : StrsF w (.slice (some ⟨b, 0, none⟩) cs.length cs.length) cs [b] ∨ cs = [] := by
  by_cases hne : cs = []
  · exact .inr hne
  refine .inl ⟨_, _, rfl, Nat.le_refl _, hl, fun e => absurd e hne, fun _ => ⟨b, 0, rfl, heap_ltA h, rfl, fun i n hn => ?_⟩⟩
  rw [Lib.cell_of_heap h]
  simp [hn]
theorem four_allocs (w : World) (A B C D : Obj) : ((((w.alloc A).alloc B).alloc C).alloc D).heap[w.heap.size]? = some A ∧ ((((w.alloc A).alloc B).alloc C).alloc D).heap[w.heap.size + 1]? = some B ∧ ((((w.alloc A).alloc B).alloc C).alloc D).heap[w.heap.size + 2]? = some C ∧ ((((w.alloc A).alloc B).alloc C).alloc D).heap[w.heap.size + 3]? = some D := by
  have a0 := heap_alloc_new w A
  have a1 := heap_alloc_new (w.alloc A) B
  have a2 := heap_alloc_new ((w.alloc A).alloc B) C
  have a3 := heap_alloc_new (((w.alloc A).alloc B).alloc C) D
  simp only [World.size_alloc] at a1 a2 a3
  refine ⟨?_, ?_, ?_, a3⟩
  · exact (heap_alloc_old _ _ (by simp <;> omega)).trans ((heap_alloc_old _ _ (by simp <;> omega)).trans ((heap_alloc_old _ _ (by simp)).trans a0))
  · exact (heap_alloc_old _ _ (by simp <;> omega)).trans ((heap_alloc_old _ _ (by simp)).trans a1)
  · exact (heap_alloc_old _ _ (by simp)).trans a2
theorem lit_cols (w3 : World) (iN : Nat) (hi : iN < 3) : ∃ (gb : Nat) (cs : List ByteArray), w3.heap.size ≤ gb ∧ cs.length ≤ 3 ∧ (∀ c ∈ cs, c.size ≤ 1) ∧ ((((w3.alloc (.cells #[.string ⟨#[120]⟩] 9)).alloc (.cells #[.string ⟨#[121]⟩, .string ⟨#[122]⟩] 9)).alloc (.cells #[.string ⟨#[120]⟩, .string ⟨#[121]⟩, .string ⟨#[122]⟩] 9)).alloc (.cells #[.slice (some ⟨w3.heap.size, 0, none⟩) 1 1, .slice (some ⟨w3.heap.size + 1, 0, none⟩) 2 2, .slice (some ⟨w3.heap.size + 2, 0, none⟩) 3 3] 24)).cell? ⟨w3.heap.size + 3, iN, none⟩ = some (.slice (some ⟨gb, 0, none⟩) cs.length cs.length) ∧ gb < ((((w3.alloc (.cells #[.string ⟨#[120]⟩] 9)).alloc (.cells #[.string ⟨#[121]⟩, .string ⟨#[122]⟩] 9)).alloc (.cells #[.string ⟨#[120]⟩, .string ⟨#[121]⟩, .string ⟨#[122]⟩] 9)).alloc (.cells #[.slice (some ⟨w3.heap.size, 0, none⟩) 1 1, .slice (some ⟨w3.heap.size + 1, 0, none⟩) 2 2, .slice (some ⟨w3.heap.size + 2, 0, none⟩) 3 3] 24)).heap.size ∧ StrsF ((((w3.alloc (.cells #[.string ⟨#[120]⟩] 9)).alloc (.cells #[.string ⟨#[121]⟩, .string ⟨#[122]⟩] 9)).alloc (.cells #[.string ⟨#[120]⟩, .string ⟨#[121]⟩, .string ⟨#[122]⟩] 9)).alloc (.cells #[.slice (some ⟨w3.heap.size, 0, none⟩) 1 1, .slice (some ⟨w3.heap.size + 1, 0, none⟩) 2 2, .slice (some ⟨w3.heap.size + 2, 0, none⟩) 3 3] 24)) (.slice (some ⟨gb, 0, none⟩) cs.length cs.length) cs [gb] ∧ Own ((((w3.alloc (.cells #[.string ⟨#[120]⟩] 9)).alloc (.cells #[.string ⟨#[121]⟩, .string ⟨#[122]⟩] 9)).alloc (.cells #[.string ⟨#[120]⟩, .string ⟨#[121]⟩, .string ⟨#[122]⟩] 9)).alloc (.cells #[.slice (some ⟨w3.heap.size, 0, none⟩) 1 1, .slice (some ⟨w3.heap.size + 1, 0, none⟩) 2 2, .slice (some ⟨w3.heap.size + 2, 0, none⟩) 3 3] 24)) w3.heap.size [gb] := by
  obtain ⟨h0, h1, h2, h3⟩ := four_allocs w3 (.cells #[.string ⟨#[120]⟩] 9) (.cells #[.string ⟨#[121]⟩, .string ⟨#[122]⟩] 9) (.cells #[.string ⟨#[120]⟩, .string ⟨#[121]⟩, .string ⟨#[122]⟩] 9) (.cells #[.slice (some ⟨w3.heap.size, 0, none⟩) 1 1, .slice (some ⟨w3.heap.size + 1, 0, none⟩) 2 2, .slice (some ⟨w3.heap.size + 2, 0, none⟩) 3 3] 24)
  generalize ((((w3.alloc (.cells #[.string ⟨#[120]⟩] 9)).alloc (.cells #[.string ⟨#[121]⟩, .string ⟨#[122]⟩] 9)).alloc (.cells #[.string ⟨#[120]⟩, .string ⟨#[121]⟩, .string ⟨#[122]⟩] 9)).alloc (.cells #[.slice (some ⟨w3.heap.size, 0, none⟩) 1 1, .slice (some ⟨w3.heap.size + 1, 0, none⟩) 2 2, .slice (some ⟨w3.heap.size + 2, 0, none⟩) 3 3] 24)) = wP at *
  have own : ∀ b, w3.heap.size ≤ b → (∀ i, wP.frozen? ⟨b, i, none⟩ = false) → Own wP w3.heap.size [b] := fun b hb hf => ⟨by simp, fun c hc => by rcases List.mem_singleton.1 hc with rfl; exact hb, fun c hc i => by rcases List.mem_singleton.1 hc with rfl; exact hf i⟩
  have hm : 3 ≤ maxLen := by unfold maxLen; omega
  rcases iN with _ | _ | _ | n
  · exact ⟨w3.heap.size, [⟨#[120]⟩], Nat.le_refl _, by simp, by decide, by rw [Lib.cell_of_heap h3]; rfl, heap_ltA h0, (strs_blk (cs := [⟨#[120]⟩]) h0 (by simp; omega)).resolve_right (by simp), own _ (Nat.le_refl _) fun i => Lib.frozen_of_heap h0 i⟩
  · exact ⟨w3.heap.size + 1, [⟨#[121]⟩, ⟨#[122]⟩], by omega, by simp, by decide, by rw [Lib.cell_of_heap h3]; rfl, heap_ltA h1, (strs_blk (cs := [⟨#[121]⟩, ⟨#[122]⟩]) h1 (by simp; omega)).resolve_right (by simp), own _ (by omega) fun i => Lib.frozen_of_heap h1 i⟩
  · exact ⟨w3.heap.size + 2, [⟨#[120]⟩, ⟨#[121]⟩, ⟨#[122]⟩], by omega, by simp, by decide, by rw [Lib.cell_of_heap h3]; rfl, heap_ltA h2, (strs_blk (cs := [⟨#[120]⟩, ⟨#[121]⟩, ⟨#[122]⟩]) h2 (by simp; omega)).resolve_right (by simp), own _ (by omega) fun i => Lib.frozen_of_heap h2 i⟩
  · omega
end Go.Proofs.YtbmoimfimeiglaaGreat
namespace Go.Proofs.YtbmoimfimeiglaaGreat
open Go.RowKit Go.Deep
set_option linter.unusedVariables false
def GsOut (s : ByteArray) (w : World) (r : Ending) (w' : World) : Prop := (∃ uc ur g F, r = .returned (.tuple #[.agg #[.int .i64 (gT s).k, .string (gT s).s, uc, .string (gT s).q, ur], .bool (gO s)]) ∧ StpOwn w' w.heap.size uc ur (gT s) g F) ∧ Below w.heap.size w w'
theorem alloc2_new (w : World) (A B : Obj) : ((w.alloc A).alloc B).heap[w.heap.size + 1]? = some B := by
  have h := heap_alloc_new (w.alloc A) B
  rwa [World.size_alloc] at h
theorem results_ct {fn : Func} {a u : Tmp} {t : TypeId} (h : fn.results = #[.cell a t, .tmp u]) (tmps : Array Value) (P : Program) (w : World) (v : Value) (p : Addr) (hp : tmps.getD a undef = .pointer (some p)) (hl : (loadVar t p).run P w = .ok v w) : (results fn tmps).run P w = .ok (.tuple #[v, tmps.getD u undef]) w := by
  have hp2 : tmps[a]?.getD undef = .pointer (some p) := by rw [← hp]; simp
  simp [results, h, hp2, hl, asAddr]
theorem load5 {w : World} {R : Nat} {a0 a1 a2 a3 a4 : Value} (c0 : w.cell? ⟨R, 0, none⟩ = some a0) (c1 : w.cell? ⟨R, 1, none⟩ = some a1) (c2 : w.cell? ⟨R, 2, none⟩ = some a2) (c3 : w.cell? ⟨R, 3, none⟩ = some a3) (c4 : w.cell? ⟨R, 4, none⟩ = some a4) : (loadVar 27 ⟨R, 0, none⟩).run Tryz.prog w = .ok (.agg #[a0, a1, a2, a3, a4]) w := by
  simp [go_sem, c0, c1, c2, c3, c4]
def five (w : World) (R : Nat) (b0 b1 b2 b3 b4 : Value) : World := ((((w.setCell ⟨R, 0, none⟩ b0).setCell ⟨R, 1, none⟩ b1).setCell ⟨R, 2, none⟩ b2).setCell ⟨R, 3, none⟩ b3).setCell ⟨R, 4, none⟩ b4
theorem five_read {w : World} {R : Nat} {a0 a1 a2 a3 a4 : Value} {t : TypeId} (h : w.heap[R]? = some (.cells #[a0, a1, a2, a3, a4] t (0, 0))) (b0 b1 b2 b3 b4 : Value) : (five w R b0 b1 b2 b3 b4).heap[R]? = some (.cells #[b0, b1, b2, b3, b4] t (0, 0)) :=
  set_blk (i := 4) (v := b4) (set_blk (i := 3) (v := b3) (set_blk (i := 2) (v := b2) (set_blk (i := 1) (v := b1) (set_blk (i := 0) (v := b0) h))))
theorem five_out {w wb : World} {R : Nat} {a0 a1 a2 a3 a4 : Value} {t : TypeId} (hb : Below w.heap.size w wb) (hR : w.heap.size ≤ R) (h : wb.heap[R]? = some (.cells #[a0, a1, a2, a3, a4] t (0, 0))) (b0 b1 b2 b3 b4 : Value) :
    (five wb R b0 b1 b2 b3 b4).cell? ⟨R, 0, none⟩ = some b0 ∧ (five wb R b0 b1 b2 b3 b4).cell? ⟨R, 1, none⟩ = some b1 ∧ (five wb R b0 b1 b2 b3 b4).cell? ⟨R, 2, none⟩ = some b2 ∧ (five wb R b0 b1 b2 b3 b4).cell? ⟨R, 3, none⟩ = some b3 ∧ (five wb R b0 b1 b2 b3 b4).cell? ⟨R, 4, none⟩ = some b4 ∧ Below w.heap.size w (five wb R b0 b1 b2 b3 b4) ∧ (∀ b, b ≠ R → (five wb R b0 b1 b2 b3 b4).heap[b]? = wb.heap[b]?) ∧ (five wb R b0 b1 b2 b3 b4).heap.size = wb.heap.size := by
  have h5 := five_read h b0 b1 b2 b3 b4
  refine ⟨by rw [Lib.cell_of_heap h5]; rfl, by rw [Lib.cell_of_heap h5]; rfl, by rw [Lib.cell_of_heap h5]; rfl, by rw [Lib.cell_of_heap h5]; rfl, by rw [Lib.cell_of_heap h5]; rfl, ?_, ?_, by simp [five]⟩
  · exact ((((hb.setCell (p := ⟨R, 0, none⟩) hR _).setCell (p := ⟨R, 1, none⟩) hR _).setCell (p := ⟨R, 2, none⟩) hR _).setCell (p := ⟨R, 3, none⟩) hR _).setCell (p := ⟨R, 4, none⟩) hR _
  · intro b hne
    unfold five
    iterate 5 rw [Below.heap_setCell _ _ _ _ (by simpa using hne)]
theorem alloc2_old (w : World) (A B : Obj) : ((w.alloc A).alloc B).heap[w.heap.size]? = some A := (heap_alloc_old _ _ (by simp)).trans (heap_alloc_new w A)
set_option maxHeartbeats 40000000 in
set_option maxRecDepth 100000 in
theorem specGetStep_any (s : ByteArray) (w : World) (hs : s.size ≤ 1048576) :
    Calls Tryz.prog 11 #[.string s] w fun r w' => GsOut s w r w' := by
  obtain ⟨i0, hi, hz0, hz1, hz2⟩ := info_parts infoS5
  obtain ⟨j0, hj0, hy0, hy1, hy2⟩ := info_parts infoR5
  have q1 : (sA s s.size (0, false)).2.1 ≤ s.size := nm_at (by simp)
  have q2 : (sB s s.size (0, false)).2.1 ≤ s.size := tx_at q1
  have q3 : (sN s s.size (0, false)).2.1 ≤ s.size := nm_at q2
  have q4 : (sC' s s.size (0, false)).2.1 ≤ s.size := csn_at q3 _
  have q5 : (sD s s.size (0, false)).2.1 ≤ s.size := tx_at q4
  have q6 : (sM s s.size (0, false)).2.1 ≤ s.size := nm_at q5
  have bn := gnV_bd s (sB s s.size (0, false)).2 1 q2 (by omega)
  have bm := gnV_bd s (sD s s.size (0, false)).2 1 q5 (by omega)
  have en : gnV s 1 (sB s s.size (0, false)).2 = ((gnV s 1 (sB s s.size (0, false)).2).toNat : Int) := by omega
  have em : gnV s 1 (sD s s.size (0, false)).2 = ((gnV s 1 (sD s s.size (0, false)).2).toNat : Int) := by omega
  have P1 : ∀ wz : World, Calls Tryz.prog 29 #[.string s, .int .i64 0, .int .i64 1] wz fun r w' => r = .returned (.tuple #[.int .i64 (gnV s 1 (0, false)), .int .i64 (ps (sA s s.size (0, false)).2)]) ∧ w' = wz := fun wz => l10Num_any s (0, false) 1 wz (Nat.zero_le _) hs (by omega)
  have P2 : ∀ wz : World, Calls Tryz.prog 36 #[.string s, .int .i64 (ps (sA s s.size (0, false)).2), .int .i64 2] wz fun r w' => r = .returned (.tuple #[.string (gtV s 2 (sA s s.size (0, false)).2), .int .i64 (ps (sB s s.size (0, false)).2)]) ∧ w' = wz := fun wz => l10Get_any s (sA s s.size (0, false)).2 2 wz q1 hs (by omega)
  have P3 : ∀ wz : World, Calls Tryz.prog 29 #[.string s, .int .i64 (ps (sB s s.size (0, false)).2), .int .i64 1] wz fun r w' => r = .returned (.tuple #[.int .i64 ((gnV s 1 (sB s s.size (0, false)).2).toNat : Int), .int .i64 (ps (sN s s.size (0, false)).2)]) ∧ w' = wz := fun wz => by rw [← en]; exact l10Num_any s (sB s s.size (0, false)).2 1 wz q2 hs (by omega)
  have P4 : ∀ (k : Nat) (wz : World), Calls Tryz.prog 36 #[.string s, .int .i64 (ps (csn s s.size (sN s s.size (0, false)).2 k).2), .int .i64 2] wz fun r w' => r = .returned (.tuple #[.string (gtV s 2 (csn s s.size (sN s s.size (0, false)).2 k).2), .int .i64 (ps (csn s s.size (sN s s.size (0, false)).2 (k + 1)).2)]) ∧ w' = wz := fun k wz => l10Get_any s (csn s s.size (sN s s.size (0, false)).2 k).2 2 wz (csn_at q3 k) hs (by omega)
  have P5 : ∀ wz : World, Calls Tryz.prog 36 #[.string s, .int .i64 (ps (sC' s s.size (0, false)).2), .int .i64 2] wz fun r w' => r = .returned (.tuple #[.string (gtV s 2 (sC' s s.size (0, false)).2), .int .i64 (ps (sD s s.size (0, false)).2)]) ∧ w' = wz := fun wz => l10Get_any s (sC' s s.size (0, false)).2 2 wz q4 hs (by omega)
  have P6 : ∀ wz : World, Calls Tryz.prog 29 #[.string s, .int .i64 (ps (sD s s.size (0, false)).2), .int .i64 1] wz fun r w' => r = .returned (.tuple #[.int .i64 ((gnV s 1 (sD s s.size (0, false)).2).toNat : Int), .int .i64 (ps (sM s s.size (0, false)).2)]) ∧ w' = wz := fun wz => by rw [← em]; exact l10Num_any s (sD s s.size (0, false)).2 1 wz q5 hs (by omega)
  have HnT : Hid ((sN s s.size (0, false)).2.2 = false → (gnV s 1 (sB s s.size (0, false)).2).toNat = (sN s s.size (0, false)).1.toNat) := by
    intro h
    have : gnV s 1 (sB s s.size (0, false)).2 = (sN s s.size (0, false)).1 := by unfold gnV; rw [if_neg]; rfl; intro h2; rw [show (nm s s.size 1 (sB s s.size (0, false)).2).2.2 = (sN s s.size (0, false)).2.2 from rfl, h] at h2; cases h2
    rw [this]
  have HmT : Hid ((sM s s.size (0, false)).2.2 = false → (gnV s 1 (sD s s.size (0, false)).2).toNat = (sM s s.size (0, false)).1.toNat) := by
    intro h
    have : gnV s 1 (sD s s.size (0, false)).2 = (sM s s.size (0, false)).1 := by unfold gnV; rw [if_neg]; rfl; intro h2; rw [show (nm s s.size 1 (sD s s.size (0, false)).2).2.2 = (sM s s.size (0, false)).2.2 from rfl, h] at h2; cases h2
    rw [this]
  have hn255 : (gnV s 1 (sB s s.size (0, false)).2).toNat ≤ 255 := by
    unfold gnV; split
    · simp
    · have := nm_bd1 (s := s) (e := s.size) (q := (sB s s.size (0, false)).2) (Nat.le_refl _) q2; omega
  have hm255 : (gnV s 1 (sD s s.size (0, false)).2).toNat ≤ 255 := by
    unfold gnV; split
    · simp
    · have := nm_bd1 (s := s) (e := s.size) (q := (sD s s.size (0, false)).2) (Nat.le_refl _) q5; omega
  clear bn bm en em
  generalize hN : (gnV s 1 (sB s s.size (0, false)).2).toNat = n at *
  generalize hM : (gnV s 1 (sD s s.size (0, false)).2).toNat = m at *
  go_enter Tryz.func11, Tryz.ntmps11
  go_wp2_with (first | (go_at_call 29; with_reducible refine Calls.mono (P1 _) ?_) | fail)
  rintro r w1 ⟨rfl, hw1⟩
  obtain rfl := hw1
  go_wp2_with (first | (go_at_call 36; with_reducible refine Calls.mono (P2 _) ?_) | fail)
  rintro r w1 ⟨rfl, hw1⟩
  obtain rfl := hw1
  go_wp2_with (first | (go_at_call 29; with_reducible refine Calls.mono (P3 _) ?_) | fail)
  rintro r w1 ⟨rfl, hw1⟩
  obtain rfl := hw1
  go_wp2_with fail
  go_loopw [10, 11] (fun nx i wr => ∃ (k : Nat) (cs : List ByteArray) (u : Value), k ≤ n ∧ i = .int .i64 k ∧ nx = .int .i64 (ps (csn s s.size (sN s s.size (0, false)).2 k).2) ∧ Hid (cs.length = k) ∧ Hid ((csn s s.size (sN s s.size (0, false)).2 k).2.2 = false → cs = (csn s s.size (sN s s.size (0, false)).2 k).1) ∧ wr.heap[w.heap.size + 1]? = some (.cells #[.int .i64 (gnV s 1 (0, false)), .string (gtV s 2 (sA s s.size (0, false)).2), u, .string ⟨#[]⟩, .slice none 0 0] 27 (0, 0)) ∧ wr.heap[w.heap.size]? = some (.cells #[.int .i64 0, .string ⟨#[]⟩, .slice none 0 0, .string ⟨#[]⟩, .slice none 0 0] 27 (0, 0)) ∧ wr.ownsRow (w.heap.size + 2) 9 1 u k (cs.map Value.string) ∧ Below w.heap.size w wr) (fun _ i _ => n - (intOf i).toNat)
  case atStart => exact ⟨0, [], .slice none 0 0, Nat.zero_le _, rfl, rfl, rfl, fun _ => rfl, alloc2_new _ _ _, alloc2_old _ _ _, World.ownsRow_nil _ _ _ _, bex⟩
  case round =>
    obtain ⟨k, cs, u, hk, rfl, rfl, HL, HC, hS, hR, hO, hb⟩ := hrel
    have hSl := heap_lt hS
    by_cases hgo : k < n ∧ (csn s s.size (sN s s.size (0, false)).2 k).2.2 = false
    · obtain ⟨hlt, ht⟩ := hgo
      have hp0 : 0 ≤ ps (csn s s.size (sN s s.size (0, false)).2 k).2 := by rw [ps_ge ht]; omega
      have hp1 : ¬ (ps (csn s s.size (sN s s.size (0, false)).2 k).2 < 0) := by omega
      have HX : Hid ((csn s s.size (sN s s.size (0, false)).2 (k + 1)).2.2 = false → cs ++ [gtV s 2 (csn s s.size (sN s s.size (0, false)).2 k).2] = (csn s s.size (sN s s.size (0, false)).2 (k + 1)).1) := by
        intro h
        have e1 : gtV s 2 (csn s s.size (sN s s.size (0, false)).2 k).2 = (tx s s.size 2 (csn s s.size (sN s s.size (0, false)).2 k).2).1 := by unfold gtV; rw [if_neg]; intro h2; rw [show (tx s s.size 2 (csn s s.size (sN s s.size (0, false)).2 k).2).2.2 = (csn s s.size (sN s s.size (0, false)).2 (k + 1)).2.2 from rfl, h] at h2; cases h2
        rw [e1, HC.out ht]; rfl
      have hne := own_typ hO hS (by decide)
      have t2 : wr.cell? ⟨w.heap.size + 1, 2, none⟩ = some u := by rw [Lib.cell_of_heap hS]; rfl
      have hkI : (k : Int) < (n : Int) := by omega
      have hP4 := P4 k wr
      generalize gtV s 2 (csn s s.size (sN s s.size (0, false)).2 k).2 = T at *
      generalize hnp : ps (csn s s.size (sN s s.size (0, false)).2 (k + 1)).2 = np at *
      go_wp2_with (first | (go_at_call 36; with_reducible refine Calls.mono hP4 ?_; rintro r w1 ⟨rfl, hw1⟩; obtain rfl : wr = w1 := hw1.symm) | (at_builtin; refine wpList_append_own _ rfl _ _ 24 rfl (w.heap.size + 2) 9 i0 (.string ⟨#[]⟩) 1 16 Tryz.underlying24 hi hz0 hz1 hz2 rfl (by decide) u k (cs.map Value.string) rfl ?hown ⟨wr.heap.size, 0, none⟩ 1 1 [.string T] rfl rfl ?c1 ?c2 ?c3 ?c4 ?c5 ?_))
      case hown => exact hO.alloc _
      case c1 => exact cell_one_new _ _ _
      case c2 => intro y hy; rcases List.mem_singleton.1 hy with rfl; rfl
      case c3 => unfold maxLen; omega
      case c4 => omega
      case c5 => simp; omega
      intro v' w2 hO2 hgrow _
      have hS2 : w2.heap[w.heap.size + 1]? = some (.cells #[.int .i64 (gnV s 1 (0, false)), .string (gtV s 2 (sA s s.size (0, false)).2), u, .string ⟨#[]⟩, .slice none 0 0] 27 (0, 0)) := (hgrow.block _ (by simp; omega) (fun e => hne e.symm)).trans ((heap_alloc_old wr _ hSl).trans hS)
      have hneR := own_typ hO hR (by decide)
      have hR2 : w2.heap[w.heap.size]? = some (.cells #[.int .i64 0, .string ⟨#[]⟩, .slice none 0 0, .string ⟨#[]⟩, .slice none 0 0] 27 (0, 0)) := (hgrow.block _ (by simp; omega) (fun e => hneR e.symm)).trans ((heap_alloc_old wr _ (by omega)).trans hR)
      have hne2 := own_typ hO2 hS2 (by decide)
      have t3 : w2.cell? ⟨w.heap.size + 1, 2, none⟩ = some u := by rw [Lib.cell_of_heap hS2]; rfl
      have t4 : w2.frozen? ⟨w.heap.size + 1, 2, none⟩ = false := Lib.frozen_of_heap hS2 2
      have hsh2 : ∃ ac nc cc, v' = .slice ac nc cc := by
        rcases hO2.2 with ⟨hv, _⟩ | ⟨g, cap, cur, hv, _⟩ <;> exact ⟨_, _, _, hv⟩
      obtain ⟨ac, nc, cc, rfl⟩ := hsh2
      have hb2 : Below w.heap.size w w2 := Below.grown (bex) hgrow (by simp; omega) (fun b hb => by have := (ownsRow_lt hO b hb).1; omega)
      have hS3 : (w2.setCell ⟨w.heap.size + 1, 2, none⟩ (.slice ac nc cc)).heap[w.heap.size + 1]? = some (.cells #[.int .i64 (gnV s 1 (0, false)), .string (gtV s 2 (sA s s.size (0, false)).2), .slice ac nc cc, .string ⟨#[]⟩, .slice none 0 0] 27 (0, 0)) := by rw [set_blk hS2]; rfl
      have hR3 : (w2.setCell ⟨w.heap.size + 1, 2, none⟩ (.slice ac nc cc)).heap[w.heap.size]? = some (.cells #[.int .i64 0, .string ⟨#[]⟩, .slice none 0 0, .string ⟨#[]⟩, .slice none 0 0] 27 (0, 0)) := (Below.heap_setCell _ _ _ _ (by intro e; dsimp only at e; omega)).trans hR2
      have hO3 : (w2.setCell ⟨w.heap.size + 1, 2, none⟩ (.slice ac nc cc)).ownsRow (w.heap.size + 2) 9 1 (.slice ac nc cc) (k + 1) ((cs ++ [T]).map Value.string) := by
        rw [List.map_append]
        exact ownsRow_keep hO2 fun b hv => Below.heap_setCell _ _ _ _ (by rintro rfl; exact hne2 hv)
      have hb3 : Below w.heap.size w (w2.setCell ⟨w.heap.size + 1, 2, none⟩ (.slice ac nc cc)) := hb2.setCell (p := ⟨w.heap.size + 1, 2, none⟩) (by simp) _
      have HL2 : Hid ((cs ++ [T]).length = k + 1) := by simp [Hid, HL.out]
      clear hO hO2 hgrow hS hR hS2 hR2 hb hb2 HC HL t2 hne hneR hne2 hP4 hp0 hp1 P1 P2 P3 P4 P5 P6
      go_wp2
      exact ⟨⟨k + 1, cs ++ [T], _, hlt, by simp, by rw [hnp], HL2, HX, hS3, hR3, hO3, hb3⟩, by simp [intOf]; omega⟩
    · have hexit : (k : Int) < (n : Int) → ps (csn s s.size (sN s s.size (0, false)).2 k).2 < 0 := by
        intro h1
        cases ht : (csn s s.size (sN s s.size (0, false)).2 k).2.2
        · exact absurd ⟨by omega, ht⟩ hgo
        · rw [ps_lt ht]; decide
      have hstop : (decide ((k : Int) < (n : Int)) && decide (0 ≤ ps (csn s s.size (sN s s.size (0, false)).2 k).2)) = false := by
        by_cases h1 : (k : Int) < (n : Int)
        · have := hexit h1; simp; omega
        · simp [h1]
      have HP : Hid (ps (csn s s.size (sN s s.size (0, false)).2 k).2 = ps (sC' s s.size (0, false)).2) := by
        show _ = _
        cases ht : (sN s s.size (0, false)).2.2 with
        | true =>
          have h1 : (csn s s.size (sN s s.size (0, false)).2 k).2.2 = true := by have := csn_late (s := s) (e := s.size) (q := (sN s s.size (0, false)).2) (k := 0) (d := k) ht; rwa [Nat.zero_add] at this
          have h2 : (sC' s s.size (0, false)).2.2 = true := by have := csn_late (s := s) (e := s.size) (q := (sN s s.size (0, false)).2) (k := 0) (d := (sN s s.size (0, false)).1.toNat) ht; rwa [Nat.zero_add] at this
          rw [ps_lt h1, ps_lt h2]
        | false =>
          have hnn := HnT.out ht
          by_cases h1 : k < n
          · have h2 := hexit (by omega)
            have h3 : (csn s s.size (sN s s.size (0, false)).2 k).2.2 = true := by
              cases h4 : (csn s s.size (sN s s.size (0, false)).2 k).2.2 with
              | true => rfl
              | false => rw [ps_ge h4] at h2; omega
            have h5 : (sC' s s.size (0, false)).2.2 = true := by
              have := csn_late (s := s) (e := s.size) (q := (sN s s.size (0, false)).2) (k := k) (d := n - k) h3
              rw [show k + (n - k) = (sN s s.size (0, false)).1.toNat by omega] at this
              exact this
            rw [ps_lt h3, ps_lt h5]
          · have : k = (sN s s.size (0, false)).1.toNat := by omega
            rw [this]; rfl
      have HC2 : Hid ((sC' s s.size (0, false)).2.2 = false → cs = (sC' s s.size (0, false)).1) := by
        intro h
        have h0 := csn_torn (q := (sN s s.size (0, false)).2) _ h
        have hnn := HnT.out h0
        have h1 : ¬ k < n := by
          intro h1
          have h2 := hexit (by omega)
          have h3 := HP.out
          rw [ps_ge h] at h3
          omega
        have : k = (sN s s.size (0, false)).1.toNat := by omega
        have h4 := HC.out (by rw [this]; exact h)
        rw [h4, this]; rfl
      have hsh : ∃ ac nc cc, u = .slice ac nc cc := by
        rcases hO.2 with ⟨hv, _⟩ | ⟨g, cap, cur, hv, _⟩ <;> exact ⟨_, _, _, hv⟩
      obtain ⟨ac, nc, cc, rfl⟩ := hsh
      have t2 : wr.cell? ⟨w.heap.size + 1, 3, none⟩ = some (.string ⟨#[]⟩) := by rw [Lib.cell_of_heap hS]; rfl
      have t3 : wr.frozen? ⟨w.heap.size + 1, 3, none⟩ = false := Lib.frozen_of_heap hS 3
      have hP5 := P5 wr
      have HPe := HP.out
      rw [← HPe] at hP5
      have hexit0 : Hid ((k : Int) < (n : Int) → ps (csn s s.size (sN s s.size (0, false)).2 k).2 < 0) := hexit
      clear hexit hgo P1 P2 P3 P4 P5 HC HPe
      have hcase : (¬ ((k : Int) < (n : Int))) ∨ ((k : Int) < (n : Int) ∧ ps (csn s s.size (sN s s.size (0, false)).2 k).2 < 0) := by
        by_cases h1 : (k : Int) < (n : Int)
        · exact .inr ⟨h1, hexit0.out h1⟩
        · exact .inl h1
      generalize hpv : ps (csn s s.size (sN s s.size (0, false)).2 k).2 = pv at *
      have hcase2 : (decide ((k : Int) < (n : Int)) = false) ∨ (decide ((k : Int) < (n : Int)) = true ∧ decide (0 ≤ pv) = false) := by
        rcases hcase with h | ⟨h1, h2⟩
        · exact .inl (decide_eq_false h)
        · exact .inr ⟨decide_eq_true h1, decide_eq_false (by omega)⟩
      clear hstop
      rcases hcase with hA | ⟨hA, hB⟩
      · go_wp2_with (first | (go_at_call 36; with_reducible refine Calls.mono hP5 ?_; rintro r w1 ⟨rfl, hw1⟩; obtain rfl : wr = w1 := hw1.symm) | (go_at_call 29; with_reducible refine Calls.mono (P6 _) ?_; rintro r w1 ⟨rfl, hw1⟩; obtain rfl := hw1) | fail)
        have hS2 : (wr.setCell ⟨w.heap.size + 1, 3, none⟩ (.string (gtV s 2 (sC' s s.size (0, false)).2))).heap[w.heap.size + 1]? = some (.cells #[.int .i64 (gnV s 1 (0, false)), .string (gtV s 2 (sA s s.size (0, false)).2), .slice ac nc cc, .string (gtV s 2 (sC' s s.size (0, false)).2), .slice none 0 0] 27 (0, 0)) := by rw [set_blk hS]; rfl
        have hR2 : (wr.setCell ⟨w.heap.size + 1, 3, none⟩ (.string (gtV s 2 (sC' s s.size (0, false)).2))).heap[w.heap.size]? = some (.cells #[.int .i64 0, .string ⟨#[]⟩, .slice none 0 0, .string ⟨#[]⟩, .slice none 0 0] 27 (0, 0)) := (Below.heap_setCell _ _ _ _ (by intro e; dsimp only at e; omega)).trans hR
        have hneS := own_typ hO hS (by decide)
        have hO2 : (wr.setCell ⟨w.heap.size + 1, 3, none⟩ (.string (gtV s 2 (sC' s s.size (0, false)).2))).ownsRow (w.heap.size + 2) 9 1 (.slice ac nc cc) k (cs.map Value.string) := ownsRow_keep hO fun b hv => Below.heap_setCell _ _ _ _ (by rintro rfl; exact hneS hv)
        have hb2 : Below w.heap.size w (wr.setCell ⟨w.heap.size + 1, 3, none⟩ (.string (gtV s 2 (sC' s s.size (0, false)).2))) := hb.setCell (p := ⟨w.heap.size + 1, 3, none⟩) (by simp) _
        clear hS hR hO hb t2 t3 hneS hP5 P6
        generalize wr.setCell ⟨w.heap.size + 1, 3, none⟩ (.string (gtV s 2 (sC' s s.size (0, false)).2)) = wS at *
        have hSl2 := heap_lt hS2
        have hbO := fun b hb => (ownsRow_lt hO2 b hb).2
        have HE1 : Hid ((sA s s.size (0, false)).2.2 = false → gnV s 1 (0, false) = (sX s s.size (0, false)).k) := by
          intro h1; show _ = _; unfold gnV; rw [if_neg (by rw [show (nm s s.size 1 (0, false)).2.2 = (sA s s.size (0, false)).2.2 from rfl, h1]; decide)]; rfl
        have HE2 : Hid ((sB s s.size (0, false)).2.2 = false → gtV s 2 (sA s s.size (0, false)).2 = (sX s s.size (0, false)).s) := by
          intro h2; show _ = _; unfold gtV; rw [if_neg (by rw [show (tx s s.size 2 (sA s s.size (0, false)).2).2.2 = (sB s s.size (0, false)).2.2 from rfl, h2]; decide)]; rfl
        have HE4 : Hid ((sD s s.size (0, false)).2.2 = false → (gtV s 2 (sC' s s.size (0, false)).2) = (sX s s.size (0, false)).q) := by
          intro h5; show _ = _; unfold gtV; rw [if_neg (by rw [show (tx s s.size 2 (sC' s s.size (0, false)).2).2.2 = (sD s s.size (0, false)).2.2 from rfl, h5]; decide)]; rfl
        obtain ⟨fR, HfR⟩ : ∃ f : Nat → Int, Hid (∀ j, ps (rln s s.size (sM s s.size (0, false)).2 j).2 = f j) := ⟨fun j => ps (rln s s.size (sM s s.size (0, false)).2 j).2, fun _ => rfl⟩
        rw [show ps (sM s s.size (0, false)).2 = fR 0 from HfR.out 0]
        generalize gnV s 1 (0, false) = kA at *
        generalize gtV s 2 (sA s s.size (0, false)).2 = tA at *
        generalize (gtV s 2 (sC' s s.size (0, false)).2) = tD at *
        generalize ps (sA s s.size (0, false)).2 = pA
        generalize ps (sB s s.size (0, false)).2 = pB
        generalize ps (sN s s.size (0, false)).2 = pN
        generalize ps (sD s s.size (0, false)).2 = pD
        go_loopw [17, 18] (fun fr i wq => ∃ (j : Nat) (rs : List R3) (v : Value) (us : List Value) (G : List (List Nat)), j ≤ m ∧ i = .int .i64 j ∧ fr = .int .i64 (fR j) ∧ Hid (rs.length = j) ∧ Hid ((rln s s.size (sM s s.size (0, false)).2 j).2.2 = false → rs = (rln s s.size (sM s s.size (0, false)).2 j).1) ∧ wq.heap[w.heap.size + 1]? = some (.cells #[.int .i64 (kA), .string tA, .slice ac nc cc, .string tD, v] 27 (0, 0)) ∧ wq.heap[w.heap.size]? = some (.cells #[.int .i64 0, .string ⟨#[]⟩, .slice none 0 0, .string ⟨#[]⟩, .slice none 0 0] 27 (0, 0)) ∧ wq.ownsRow (w.heap.size + 2) 9 1 (.slice ac nc cc) k (cs.map Value.string) ∧ RelOwn wq wS.heap.size v rs us G ∧ Below w.heap.size w wq ∧ wS.heap.size ≤ wq.heap.size) (fun _ i _ => m - (intOf i).toNat)
        case atStart => exact ⟨0, [], .slice none 0 0, [], [], Nat.zero_le _, rfl, rfl, rfl, fun _ => rfl, hS2, hR2, hO2, ⟨⟨rfl, .inl ⟨rfl, rfl⟩⟩, rfl, rfl, fun i x u g hx => by simp at hx, by simp [Own, Free], fun b _ => by simp⟩, hb2, Nat.le_refl _⟩
        case round =>
          clear hS2 hR2 hO2 hb2
          obtain ⟨j, rs, v, us, G, hj, rfl, rfl, HLr, HCr, hS, hR, hO, hQ, hb, hzS⟩ := hrel
          by_cases hgo2 : j < m ∧ (rln s s.size (sM s s.size (0, false)).2 j).2.2 = false
          · obtain ⟨hlt, ht⟩ := hgo2
            have hp0 : 0 ≤ fR j := by rw [← HfR.out j, ps_ge ht]; omega
            have hjI : (j : Int) < (m : Int) := by omega
            have hqj : (rln s s.size (sM s s.size (0, false)).2 j).2.1 ≤ s.size := rln_at q6 j
            have hqt : (tx s s.size 2 (rln s s.size (sM s s.size (0, false)).2 j).2).2.1 ≤ s.size := tx_at hqj
            have hP7 := l10Get_any s (rln s s.size (sM s s.size (0, false)).2 j).2 2 wr hqj hs (by omega)
            rw [HfR.out j] at hP7
            have hP8 := l10Get_any s (tx s s.size 2 (rln s s.size (sM s s.size (0, false)).2 j).2).2 4 wr hqt hs (by omega)
            have hsz2 : (gtV s 4 (tx s s.size 2 (rln s s.size (sM s s.size (0, false)).2 j).2).2).size ≤ 1048576 := by
              unfold gtV
              split
              · exact Nat.zero_le _
              · exact Nat.le_trans (tk_size (Nat.le_refl _) (nm_at hqt)) hs
            have hGB := specGetBag_any (gtV s 4 (tx s s.size 2 (rln s s.size (sM s s.size (0, false)).2 j).2).2) wr hsz2
            have HBad : Hid (aB (gtV s 4 (tx s s.size 2 (rln s s.size (sM s s.size (0, false)).2 j).2).2) = false → gO s = false) := by
              intro hab
              have h1 : (rln s s.size (sM s s.size (0, false)).2 (j + 1)).2.2 = true := rl_bad hab
              have h2 := rln_torn (q := (sM s s.size (0, false)).2) _ ht
              have h3 := HmT.out h2
              have h4 : (sE s s.size (0, false)).2.2 = true := by
                have := rln_late (s := s) (e := s.size) (q := (sM s s.size (0, false)).2) (k := j + 1) (d := m - (j + 1)) h1
                rw [show j + 1 + (m - (j + 1)) = (sM s s.size (0, false)).1.toNat by omega] at this
                exact this
              unfold gO sO sT
              rw [h4]; rfl
            have HNx : Hid (aB (gtV s 4 (tx s s.size 2 (rln s s.size (sM s s.size (0, false)).2 j).2).2) = true → ps (tx s s.size 4 (tx s s.size 2 (rln s s.size (sM s s.size (0, false)).2 j).2).2).2 = fR (j + 1)) := fun hab => by show _ = _; rw [← HfR.out]; exact ps_rl hab
            have HEq : Hid ((rln s s.size (sM s s.size (0, false)).2 (j + 1)).2.2 = false → rs ++ [⟨gtV s 2 (rln s s.size (sM s s.size (0, false)).2 j).2, aW (gtV s 4 (tx s s.size 2 (rln s s.size (sM s s.size (0, false)).2 j).2).2), aC (gtV s 4 (tx s s.size 2 (rln s s.size (sM s s.size (0, false)).2 j).2).2)⟩] = (rln s s.size (sM s s.size (0, false)).2 (j + 1)).1) := by
              intro h
              rw [rl_eq (q := (rln s s.size (sM s s.size (0, false)).2 j).2) h, HCr.out ht]; rfl
            generalize gtV s 2 (rln s s.size (sM s s.size (0, false)).2 j).2 = T1 at *
            generalize gtV s 4 (tx s s.size 2 (rln s s.size (sM s s.size (0, false)).2 j).2).2 = T2 at *
            generalize ps (tx s s.size 4 (tx s s.size 2 (rln s s.size (sM s s.size (0, false)).2 j).2).2).2 = p3 at *
            generalize ps (tx s s.size 2 (rln s s.size (sM s s.size (0, false)).2 j).2).2 = p2 at *
            go_wp2_with (first | (go_at_call 36; with_reducible refine Calls.mono hP7 ?_; rintro r w1 ⟨rfl, hw1⟩; obtain rfl : wr = w1 := hw1.symm) | (go_at_call 36; with_reducible refine Calls.mono hP8 ?_; rintro r w1 ⟨rfl, hw1⟩; obtain rfl : wr = w1 := hw1.symm) | (go_at_call 37; with_reducible refine Calls.mono hGB ?_) | fail)
            rintro r w3 ⟨⟨u3, us3, G3, rfl, hBag⟩, hb3⟩
            obtain ⟨a3, c3, rfl⟩ := hBag.shape
            cases hab : aB T2
            · as_aux_lemma =>
                have hgo := HBad.out hab
                have HZ : Hid (gT s = zT) := by show _ = _; unfold gT; rw [if_neg (by rw [show sO s s.size (0, false) = gO s from rfl, hgo]; decide)]
                have hR3 : (w3.alloc (.cells #[.int .i64 (aW T2), .slice a3 (aC T2).length c3] 71)).heap[w.heap.size]? = some (.cells #[.int .i64 0, .string ⟨#[]⟩, .slice none 0 0, .string ⟨#[]⟩, .slice none 0 0] 27 (0, 0)) := (heap_alloc_old w3 _ (Nat.lt_of_lt_of_le (heap_lt hR) hb3.size)).trans ((hb3.block _ (heap_lt hR)).trans hR)
                have hbE : Below w.heap.size w (w3.alloc (.cells #[.int .i64 (aW T2), .slice a3 (aC T2).length c3] 71)) := (hb.trans (hb3.mono hb.size)).alloc (Nat.le_trans hb.size hb3.size) _
                clear hR hS hO hQ hb hb3 hBag HBad HNx HEq HCr HLr hP7 hP8 hGB
                clear HE1 HE2 HE4 HfR q1 q2 q3 q4 q5 q6 HnT HmT hn255 hm255 hcase2 hexit0 HL HP HC2 hi hz0 hz1 hz2 hj0 hy0 hy1 hy2 hSl2 hbO
                go_upto_region 22 with fail
                generalize w3.alloc (.cells #[.int .i64 (aW T2), .slice a3 (aC T2).length c3] 71) = wb at *
                have r0 : wb.cell? ⟨w.heap.size, 0, none⟩ = some (.int .i64 0) := by rw [Lib.cell_of_heap hR3]; rfl
                have r1 : wb.cell? ⟨w.heap.size, 1, none⟩ = some (.string ⟨#[]⟩) := by rw [Lib.cell_of_heap hR3]; rfl
                have r2 : wb.cell? ⟨w.heap.size, 2, none⟩ = some (.slice none 0 0) := by rw [Lib.cell_of_heap hR3]; rfl
                have r3 : wb.cell? ⟨w.heap.size, 3, none⟩ = some (.string ⟨#[]⟩) := by rw [Lib.cell_of_heap hR3]; rfl
                have r4 : wb.cell? ⟨w.heap.size, 4, none⟩ = some (.slice none 0 0) := by rw [Lib.cell_of_heap hR3]; rfl
                have rf : ∀ i, wb.frozen? ⟨w.heap.size, i, none⟩ = false := fun i => Lib.frozen_of_heap hR3 i
                have hRl := heap_lt hR3
                have HR : Hid (wb.heap[w.heap.size]? = some (.cells #[.int .i64 0, .string ⟨#[]⟩, .slice none 0 0, .string ⟨#[]⟩, .slice none 0 0] 27 (0, 0))) := hR3
                clear hR3
                go_wp2
                obtain ⟨c0, c1, c2, c3, c4, c5, c6, c7⟩ := five_out hbE (Nat.le_refl _) HR.out (.int .i64 0) (.string ⟨#[]⟩) (.slice none 0 0) (.string ⟨#[]⟩) (.slice none 0 0)
                clear r0 r1 r2 r3 r4 rf HR
                unfold five at c0 c1 c2 c3 c4 c5 c6 c7
                generalize (World.setCell (World.setCell (World.setCell (World.setCell (World.setCell wb ⟨w.heap.size, 0, none⟩ (.int .i64 0)) ⟨w.heap.size, 1, none⟩ (.string ⟨#[]⟩)) ⟨w.heap.size, 2, none⟩ (.slice none 0 0)) ⟨w.heap.size, 3, none⟩ (.string ⟨#[]⟩)) ⟨w.heap.size, 4, none⟩ (.slice none 0 0)) = wF at c0 c1 c2 c3 c4 c5 c6 c7 ⊢
                refine bodyPost_ret (results_ct rfl _ _ _ _ ⟨w.heap.size, 0, none⟩ rfl (load5 c0 c1 c2 c3 c4)) rfl ⟨⟨.slice none 0 0, .slice none 0 0, [], [], (by rw [HZ.out]; (try rw [hgo]); rfl), (by rw [HZ.out]; exact StpOwn.nil _ _)⟩, c5⟩
            · as_aux_lemma =>
                have hnx := HNx.out hab
                obtain ⟨F2, hF2, hO2⟩ := hBag.rowsF
                have hGl := hQ.lt
                have hul := ownsRow_lt hQ.own
                have hSl3 := heap_lt hS
                have hRl3 := heap_lt hR
                have hzr := hb3.size
                have hbO3 := fun b hb => (ownsRow_lt hO b hb).2
                have bal : Below w3.heap.size w3 ((w3.alloc (.cells #[.int .i64 (aW T2), .slice a3 (aC T2).length c3] 71)).alloc (.cells #[.string T1, .int .i64 (aW T2), .slice a3 (aC T2).length c3] 73)) := ((Below.refl _ _).alloc (Nat.le_refl _) _).alloc (by simp) _
                have bA : Below wr.heap.size wr ((w3.alloc (.cells #[.int .i64 (aW T2), .slice a3 (aC T2).length c3] 71)).alloc (.cells #[.string T1, .int .i64 (aW T2), .slice a3 (aC T2).length c3] 73)) := hb3.trans (bal.mono hzr)
                have hS4 : ((w3.alloc (.cells #[.int .i64 (aW T2), .slice a3 (aC T2).length c3] 71)).alloc (.cells #[.string T1, .int .i64 (aW T2), .slice a3 (aC T2).length c3] 73)).heap[w.heap.size + 1]? = some (.cells #[.int .i64 kA, .string tA, .slice ac nc cc, .string tD, v] 27 (0, 0)) := (bA.block _ hSl3).trans hS
                have hR4 : ((w3.alloc (.cells #[.int .i64 (aW T2), .slice a3 (aC T2).length c3] 71)).alloc (.cells #[.string T1, .int .i64 (aW T2), .slice a3 (aC T2).length c3] 73)).heap[w.heap.size]? = some (.cells #[.int .i64 0, .string ⟨#[]⟩, .slice none 0 0, .string ⟨#[]⟩, .slice none 0 0] 27 (0, 0)) := (bA.block _ hRl3).trans hR
                have hO4 : ((w3.alloc (.cells #[.int .i64 (aW T2), .slice a3 (aC T2).length c3] 71)).alloc (.cells #[.string T1, .int .i64 (aW T2), .slice a3 (aC T2).length c3] 73)).ownsRow (w.heap.size + 2) 9 1 (.slice ac nc cc) k (cs.map Value.string) := ownsRow_keep hO fun b hv => bA.block b (hbO3 b hv)
                have hQ4 := hQ.below bA
                have hbE : Below w.heap.size w ((w3.alloc (.cells #[.int .i64 (aW T2), .slice a3 (aC T2).length c3] 71)).alloc (.cells #[.string T1, .int .i64 (aW T2), .slice a3 (aC T2).length c3] 73)) := hb.trans (bA.mono hb.size)
                have hF4 := hF2.below bal
                have hOw4 : Own ((w3.alloc (.cells #[.int .i64 (aW T2), .slice a3 (aC T2).length c3] 71)).alloc (.cells #[.string T1, .int .i64 (aW T2), .slice a3 (aC T2).length c3] 73)) wS.heap.size F2 := ⟨hO2.1, fun b hb => Nat.le_trans hzS (hO2.2.1 b hb), fun b hb i => (frozen_blk (bal.block _ (hF2.lt b hb))).trans (hO2.2.2 b hb i)⟩
                have hd1 : ∀ b ∈ G.flatten, b ∉ F2 := fun b hb hb2 => by have := hO2.2.1 b hb2; have := hGl b hb; omega
                have hd2 : ∀ b, v.ownBlock = some b → b ∉ F2 := fun b hb hb2 => by have := hO2.2.1 b hb2; have := (hul b hb).2; omega
                have hrl : ((w3.alloc (.cells #[.int .i64 (aW T2), .slice a3 (aC T2).length c3] 71)).alloc (.cells #[.string T1, .int .i64 (aW T2), .slice a3 (aC T2).length c3] 73)).heap[w3.heap.size + 1]? = some (.cells #[.string T1, .int .i64 (aW T2), .slice a3 (aC T2).length c3] 73 (0, 0)) := alloc2_new _ _ _
                obtain ⟨av, cv, rfl⟩ := hQ.shape
                have t0 : w3.cell? ⟨w.heap.size + 1, 4, none⟩ = some (.slice av rs.length cv) := by rw [Lib.cell_of_heap ((hb3.block _ hSl3).trans hS)]; rfl
                have hl3 : w.heap.size + 1 < w3.heap.size := by omega
                have hlenJ : rs.length = j := HLr.out
                have HLJ : Hid (rs.length = j) := hlenJ
                have hz4 : wS.heap.size ≤ w3.heap.size := by omega
                have hml : rs.length ≤ 255 := by omega
                clear hlenJ hb3 hBag hO hQ hb hS hR hO2 hF2 HBad HCr HLr hP7 hP8 hGB HNx bA bal
                have ho4 := hQ4.own
                go_wp2_with (at_builtin; (refine wpList_append_own_at _ rfl _ _ 25 rfl wS.heap.size 73 j0 _ 3 48 Tryz.underlying25 hj0 hy0 hy1 hy2 rfl (by decide) _ _ _ rfl ho4 ⟨w3.heap.size + 1, 0, none⟩ 1 1 [.string T1, .int .i64 (aW T2), .slice a3 (aC T2).length c3] rfl (by simp) ?c1 ?c2 ?c3 ?c4 ?c5 ?_))
                case c1 => exact World.news_of_block (cs := #[.string T1, .int .i64 (aW T2), .slice a3 (aC T2).length c3]) (t := 73) (fr := (0, 0)) hrl
                case c2 => simp [Value.oneCell']
                case c3 => unfold maxLen; omega
                case c4 => omega
                case c5 => simp; omega
                intro v' w5 hown' hgrow _ hat
                have hneS := own_typ ho4 hS4 (by decide)
                have hneR := own_typ ho4 hR4 (by decide)
                have hS5 : w5.heap[w.heap.size + 1]? = some (.cells #[.int .i64 kA, .string tA, .slice ac nc cc, .string tD, .slice av rs.length cv] 27 (0, 0)) := (hgrow.block _ (heap_lt hS4) (fun e => hneS e.symm)).trans hS4
                have hR5 : w5.heap[w.heap.size]? = some (.cells #[.int .i64 0, .string ⟨#[]⟩, .slice none 0 0, .string ⟨#[]⟩, .slice none 0 0] 27 (0, 0)) := (hgrow.block _ (heap_lt hR4) (fun e => hneR e.symm)).trans hR4
                have hO5 : w5.ownsRow (w.heap.size + 2) 9 1 (.slice ac nc cc) k (cs.map Value.string) := ownsRow_keep hO4 fun b hv => hgrow.block b (ownsRow_lt hO4 b hv).2 (fun e => by have h1 := (hul b e.symm).1; have h2 := hbO b hv; omega)
                have hQ5 := RelOwn.push (x := ⟨T1, aW T2, aC T2⟩) hQ4 hF4 hOw4 hd1 hd2 hown' hgrow (fun b hb => by
                  rcases hat with e | e
                  · left; rw [← e]; exact hb
                  · right; rw [e] at hb; cases hb; simp)
                have hb5 : Below w.heap.size w w5 := hbE.grown hgrow (by simp; omega) (fun b hb => by have := (hul b hb).1; omega)
                have hne5 := own_typ hown' hS5 (by decide)
                have hsz5 := hgrow.size
                simp only [World.size_alloc] at hsz5
                have hs5 : ∃ ao n' cap, v' = .slice ao n' cap := by
                  rcases hown'.2 with ⟨hv, _⟩ | ⟨g, cap, cur, hv, _⟩ <;> exact ⟨_, _, _, hv⟩
                obtain ⟨ao, n', cap, rfl⟩ := hs5
                have t3 : w5.cell? ⟨w.heap.size + 1, 4, none⟩ = some (.slice av rs.length cv) := by rw [Lib.cell_of_heap hS5]; rfl
                have t4 : w5.frozen? ⟨w.heap.size + 1, 4, none⟩ = false := Lib.frozen_of_heap hS5 4
                have hS6 : (w5.setCell ⟨w.heap.size + 1, 4, none⟩ (.slice ao n' cap)).heap[w.heap.size + 1]? = some (.cells #[.int .i64 kA, .string tA, .slice ac nc cc, .string tD, .slice ao n' cap] 27 (0, 0)) := by rw [set_blk hS5]; rfl
                have hR6 : (w5.setCell ⟨w.heap.size + 1, 4, none⟩ (.slice ao n' cap)).heap[w.heap.size]? = some (.cells #[.int .i64 0, .string ⟨#[]⟩, .slice none 0 0, .string ⟨#[]⟩, .slice none 0 0] 27 (0, 0)) := (Below.heap_setCell _ _ _ _ (by intro e; dsimp only at e; omega)).trans hR5
                have hneO := own_typ hO5 hS5 (by decide)
                have hO6 : (w5.setCell ⟨w.heap.size + 1, 4, none⟩ (.slice ao n' cap)).ownsRow (w.heap.size + 2) 9 1 (.slice ac nc cc) k (cs.map Value.string) := ownsRow_keep hO5 fun b hv => Below.heap_setCell _ _ _ _ (by rintro rfl; exact hneO hv)
                have hQ6 := hQ5.keepF (w' := w5.setCell ⟨w.heap.size + 1, 4, none⟩ (.slice ao n' cap)) (by simp) (fun b hv => Below.heap_setCell _ _ _ _ (by rintro rfl; exact hne5 hv)) (fun b hb => Below.heap_setCell _ _ _ _ (by intro e; have := hQ5.free.2.1 _ hb; dsimp only at e; omega))
                have hb6 : Below w.heap.size w (w5.setCell ⟨w.heap.size + 1, 4, none⟩ (.slice ao n' cap)) := hb5.setCell (p := ⟨w.heap.size + 1, 4, none⟩) (by simp) _
                have hz6 : wS.heap.size ≤ (w5.setCell ⟨w.heap.size + 1, 4, none⟩ (.slice ao n' cap)).heap.size := by simp; omega
                have HL6 : Hid ((rs ++ [(⟨T1, aW T2, aC T2⟩ : R3)]).length = j + 1) := by show _ = _; rw [List.length_append, HLJ.out]; rfl
                have HQ6 : Hid (RelOwn (w5.setCell ⟨w.heap.size + 1, 4, none⟩ (.slice ao n' cap)) wS.heap.size (.slice ao n' cap) (rs ++ [⟨T1, aW T2, aC T2⟩]) (us ++ [.slice a3 (aC T2).length c3]) (G ++ [F2])) := hQ6
                clear hQ4 hQ5 hQ6 hown' hgrow hat hF4 hOw4 hO4 hO5 hS4 hS5 hR4 hR5 ho4 hb5 hbE t0 hrl hne5 hneS hneR hneO
                go_wp2
                exact ⟨⟨j + 1, rs ++ [⟨T1, aW T2, aC T2⟩], _, _, _, hlt, by simp, (by first | rfl | rw [hnx]), HL6, HEq, hS6, hR6, hO6, HQ6.out, hb6, hz6⟩, by simp [intOf]; omega⟩
          · as_aux_lemma =>
              have hexit : (j : Int) < (m : Int) → fR j < 0 := by
                intro h1
                rw [← HfR.out j]
                cases ht : (rln s s.size (sM s s.size (0, false)).2 j).2.2
                · exact absurd ⟨by omega, ht⟩ hgo2
                · rw [ps_lt ht]; decide
              have HP : Hid (fR j = ps (sE s s.size (0, false)).2) := by
                show _ = _
                rw [← HfR.out j]
                cases ht : (sM s s.size (0, false)).2.2 with
                | true =>
                  have h1 : (rln s s.size (sM s s.size (0, false)).2 j).2.2 = true := by have := rln_late (s := s) (e := s.size) (q := (sM s s.size (0, false)).2) (k := 0) (d := j) ht; rwa [Nat.zero_add] at this
                  have h2 : (sE s s.size (0, false)).2.2 = true := by have := rln_late (s := s) (e := s.size) (q := (sM s s.size (0, false)).2) (k := 0) (d := (sM s s.size (0, false)).1.toNat) ht; rwa [Nat.zero_add] at this
                  rw [ps_lt h1, ps_lt h2]
                | false =>
                  have hnn := HmT.out ht
                  by_cases h1 : j < m
                  · have h2 := hexit (by omega)
                    rw [← HfR.out j] at h2
                    have h3 : (rln s s.size (sM s s.size (0, false)).2 j).2.2 = true := by
                      cases h4 : (rln s s.size (sM s s.size (0, false)).2 j).2.2 with
                      | true => rfl
                      | false => rw [ps_ge h4] at h2; omega
                    have h5 : (sE s s.size (0, false)).2.2 = true := by
                      have := rln_late (s := s) (e := s.size) (q := (sM s s.size (0, false)).2) (k := j) (d := m - j) h3
                      rw [show j + (m - j) = (sM s s.size (0, false)).1.toNat by omega] at this
                      exact this
                    rw [ps_lt h3, ps_lt h5]
                  · have : j = (sM s s.size (0, false)).1.toNat := by omega
                    rw [this]; rfl
              have HCE : Hid ((sE s s.size (0, false)).2.2 = false → rs = (sE s s.size (0, false)).1) := by
                intro h
                have h0 := rln_torn (q := (sM s s.size (0, false)).2) _ h
                have hnn := HmT.out h0
                have h1 : ¬ j < m := by
                  intro h1
                  have h2 := hexit (by omega)
                  have h3 := HP.out
                  rw [ps_ge h] at h3
                  omega
                have : j = (sM s s.size (0, false)).1.toNat := by omega
                have h4 := HCr.out (by rw [this]; exact h)
                rw [h4, this]; rfl
              have r0 : wr.cell? ⟨w.heap.size, 0, none⟩ = some (.int .i64 0) := by rw [Lib.cell_of_heap hR]; rfl
              have r1 : wr.cell? ⟨w.heap.size, 1, none⟩ = some (.string ⟨#[]⟩) := by rw [Lib.cell_of_heap hR]; rfl
              have r2 : wr.cell? ⟨w.heap.size, 2, none⟩ = some (.slice none 0 0) := by rw [Lib.cell_of_heap hR]; rfl
              have r3 : wr.cell? ⟨w.heap.size, 3, none⟩ = some (.string ⟨#[]⟩) := by rw [Lib.cell_of_heap hR]; rfl
              have r4 : wr.cell? ⟨w.heap.size, 4, none⟩ = some (.slice none 0 0) := by rw [Lib.cell_of_heap hR]; rfl
              have rf : ∀ i, wr.frozen? ⟨w.heap.size, i, none⟩ = false := fun i => Lib.frozen_of_heap hR i
              have hRl := heap_lt hR
              have hSl := heap_lt hS
              have HR : Hid (wr.heap[w.heap.size]? = some (.cells #[.int .i64 0, .string ⟨#[]⟩, .slice none 0 0, .string ⟨#[]⟩, .slice none 0 0] 27 (0, 0))) := hR
              have hbE : Below w.heap.size w wr := hb
              clear hR hi hz0 hz1 hz2 hj0 hy0 hy1 hy2 q1 q2 q3 q4 q5 q6 hn255 hm255 hcase2 hexit0
              have hRS : w.heap.size ≠ w.heap.size + 1 := by omega
              by_cases hneg : fR j < 0
              · have hgo : gO s = false := by
                  have h4 : (sE s s.size (0, false)).2.2 = true := by
                    cases h4 : (sE s s.size (0, false)).2.2 with
                    | true => rfl
                    | false => have := HP.out; rw [ps_ge h4] at this; omega
                  unfold gO sO sT
                  rw [h4]; rfl
                have HZ : Hid (gT s = zT) := by show _ = _; unfold gT; rw [if_neg (by rw [show sO s s.size (0, false) = gO s from rfl, hgo]; decide)]
                clear HE1 HE2 HE4 HfR HCE HC2 HP HnT HmT hO hQ hS HCr HLr HL
                have hB2 : ¬ (0 ≤ fR j) := by omega
                generalize fR j = pw at *
                by_cases hA2 : (j : Int) < (m : Int)
                · clear hexit
                  go_wp2
                  obtain ⟨c0, c1, c2, c3, c4, c5, c6, c7⟩ := five_out hbE (Nat.le_refl _) HR.out (.int .i64 0) (.string ⟨#[]⟩) (.slice none 0 0) (.string ⟨#[]⟩) (.slice none 0 0)
                  clear r0 r1 r2 r3 r4 rf HR
                  unfold five at c0 c1 c2 c3 c4 c5 c6 c7
                  generalize (World.setCell (World.setCell (World.setCell (World.setCell (World.setCell wr ⟨w.heap.size, 0, none⟩ (.int .i64 0)) ⟨w.heap.size, 1, none⟩ (.string ⟨#[]⟩)) ⟨w.heap.size, 2, none⟩ (.slice none 0 0)) ⟨w.heap.size, 3, none⟩ (.string ⟨#[]⟩)) ⟨w.heap.size, 4, none⟩ (.slice none 0 0)) = wF at c0 c1 c2 c3 c4 c5 c6 c7 ⊢
                  refine bodyPost_ret (results_ct rfl _ _ _ _ ⟨w.heap.size, 0, none⟩ rfl (load5 c0 c1 c2 c3 c4)) rfl ⟨⟨.slice none 0 0, .slice none 0 0, [], [], (by rw [HZ.out]; (try rw [hgo]); rfl), (by rw [HZ.out]; exact StpOwn.nil _ _)⟩, c5⟩
                · clear hexit
                  go_wp2
                  obtain ⟨c0, c1, c2, c3, c4, c5, c6, c7⟩ := five_out hbE (Nat.le_refl _) HR.out (.int .i64 0) (.string ⟨#[]⟩) (.slice none 0 0) (.string ⟨#[]⟩) (.slice none 0 0)
                  clear r0 r1 r2 r3 r4 rf HR
                  unfold five at c0 c1 c2 c3 c4 c5 c6 c7
                  generalize (World.setCell (World.setCell (World.setCell (World.setCell (World.setCell wr ⟨w.heap.size, 0, none⟩ (.int .i64 0)) ⟨w.heap.size, 1, none⟩ (.string ⟨#[]⟩)) ⟨w.heap.size, 2, none⟩ (.slice none 0 0)) ⟨w.heap.size, 3, none⟩ (.string ⟨#[]⟩)) ⟨w.heap.size, 4, none⟩ (.slice none 0 0)) = wF at c0 c1 c2 c3 c4 c5 c6 c7 ⊢
                  refine bodyPost_ret (results_ct rfl _ _ _ _ ⟨w.heap.size, 0, none⟩ rfl (load5 c0 c1 c2 c3 c4)) rfl ⟨⟨.slice none 0 0, .slice none 0 0, [], [], (by rw [HZ.out]; (try rw [hgo]); rfl), (by rw [HZ.out]; exact StpOwn.nil _ _)⟩, c5⟩
              · have hA2 : ¬ ((j : Int) < (m : Int)) := fun h => hneg (hexit h)
                have hT : (sE s s.size (0, false)).2.2 = false := by
                  cases h4 : (sE s s.size (0, false)).2.2 with
                  | false => rfl
                  | true => have := HP.out; rw [ps_lt h4] at this; omega
                have h6 := rln_torn (q := (sM s s.size (0, false)).2) _ hT
                have h5 := nm_torn (q := (sD s s.size (0, false)).2) h6
                have h4 := (tx_torn (q := (sC' s s.size (0, false)).2) h5).2
                have h3 := csn_torn (q := (sN s s.size (0, false)).2) _ h4
                have h2 := nm_torn (q := (sB s s.size (0, false)).2) h3
                have h1 := (tx_torn (q := (sA s s.size (0, false)).2) h2).2
                have E1 := HE1.out h1
                have E2 := HE2.out h2
                have E3 : cs = (sX s s.size (0, false)).cs := HC2.out h4
                have E4 := HE4.out h5
                have E5 : rs = (sX s s.size (0, false)).rs := HCE.out hT
                have hss := step_same s hT
                have hwf := sX_wf (s := s) (e := s.size) (q := (0, false)) (Nat.le_refl _) hs (Nat.zero_le _)
                have HG : Hid (gT s = if gO s = true then sX s s.size (0, false) else zT) := rfl
                have hlk : cs.length = k := HL.out
                obtain ⟨av, cv, rfl⟩ := hQ.shape
                rw [E1, E2, E4] at hS
                subst E3 E5
                rw [← hlk] at hO
                obtain ⟨g, hg, hgO, hgB⟩ := strs_own hO
                obtain ⟨F, hF, hFO⟩ := hQ.relsF
                obtain ⟨e1, e2, e3, _, _⟩ := hg.shape
                obtain ⟨rfl, rfl, rfl⟩ : ac = e1 ∧ nc = (sX s s.size (0, false)).cs.length ∧ cc = e2 := by injection e3 with a b c; exact ⟨a, b, c⟩
                have hIs : StpIs wr (.slice ac (sX s s.size (0, false)).cs.length cc) (.slice av (sX s s.size (0, false)).rs.length cv) (sX s s.size (0, false)) := ⟨⟨g, hg⟩, hF.is⟩
                have Hg : Hid (StrsF wr (.slice ac (sX s s.size (0, false)).cs.length cc) (sX s s.size (0, false)).cs g ∧ (∀ b ∈ g, b ≠ w.heap.size) ∧ RelsF wr (.slice av (sX s s.size (0, false)).rs.length cv) (sX s s.size (0, false)).rs F ∧ (∀ b ∈ F, b ≠ w.heap.size) ∧ Own wr w.heap.size g ∧ Own wr w.heap.size F ∧ ∀ b ∈ g, b ∉ F) := ⟨hg, (fun b hb e => by have := hgO.2.1 b hb; omega), hF, (fun b hb e => by have := hFO.2.1 b hb; omega), ⟨hgO.1, (fun b hb => by have := hgO.2.1 b hb; omega), hgO.2.2⟩, ⟨hFO.1, (fun b hb => by have := hFO.2.1 b hb; omega), hFO.2.2⟩, fun b hb hb2 => by have h8 := hbO b (hgB b hb); have h9 := hFO.2.1 b hb2; omega⟩
                have hPut := specPutStep_any (sX s s.size (0, false)) _ _ wr hwf hIs
                clear HE1 HE2 HE4 HfR HCE HC2 HP HnT HmT hO hQ HCr HLr HL h1 h2 h3 h4 h5 h6 E1 E2 E4 hg hF hgO hFO hgB hlk hwf hexit
                generalize sX s s.size (0, false) = x at *
                generalize fR j = pw at *
                generalize x.cs.length = lc at *
                generalize x.rs.length = lr at *
                have u0 : wr.cell? ⟨w.heap.size + 1, 0, none⟩ = some (.int .i64 x.k) := by rw [Lib.cell_of_heap hS]; rfl
                have u1 : wr.cell? ⟨w.heap.size + 1, 1, none⟩ = some (.string x.s) := by rw [Lib.cell_of_heap hS]; rfl
                have u2 : wr.cell? ⟨w.heap.size + 1, 2, none⟩ = some (.slice ac lc cc) := by rw [Lib.cell_of_heap hS]; rfl
                have u3 : wr.cell? ⟨w.heap.size + 1, 3, none⟩ = some (.string x.q) := by rw [Lib.cell_of_heap hS]; rfl
                have u4 : wr.cell? ⟨w.heap.size + 1, 4, none⟩ = some (.slice av lr cv) := by rw [Lib.cell_of_heap hS]; rfl
                have uf : ∀ i, wr.frozen? ⟨w.heap.size + 1, i, none⟩ = false := fun i => Lib.frozen_of_heap hS i
                by_cases hz : s.size = 0
                · have hgo : gO s = false := by
                    cases h : gO s with
                    | false => rfl
                    | true => exact absurd hz (hss.2 h).1
                  have HZ : Hid (gT s = zT) := by show _ = _; rw [HG.out, if_neg (by rw [hgo]; decide)]
                  have hnil : s.toList = [] := by rw [ByteArray.toList_eq]; exact List.eq_nil_of_length_eq_zero (by simpa using hz)
                  clear hPut hIs hss hS
                  go_wp2
                  obtain ⟨c0, c1, c2, c3, c4, c5, c6, c7⟩ := five_out hbE (Nat.le_refl _) HR.out (.int .i64 0) (.string ⟨#[]⟩) (.slice none 0 0) (.string ⟨#[]⟩) (.slice none 0 0)
                  clear r0 r1 r2 r3 r4 rf HR
                  unfold five at c0 c1 c2 c3 c4 c5 c6 c7
                  generalize (World.setCell (World.setCell (World.setCell (World.setCell (World.setCell wr ⟨w.heap.size, 0, none⟩ (.int .i64 0)) ⟨w.heap.size, 1, none⟩ (.string ⟨#[]⟩)) ⟨w.heap.size, 2, none⟩ (.slice none 0 0)) ⟨w.heap.size, 3, none⟩ (.string ⟨#[]⟩)) ⟨w.heap.size, 4, none⟩ (.slice none 0 0)) = wF at c0 c1 c2 c3 c4 c5 c6 c7 ⊢
                  refine bodyPost_ret (results_ct rfl _ _ _ _ ⟨w.heap.size, 0, none⟩ rfl (load5 c0 c1 c2 c3 c4)) rfl ⟨⟨.slice none 0 0, .slice none 0 0, [], [], (by rw [HZ.out]; (try rw [hgo]); rfl), (by rw [HZ.out]; exact StpOwn.nil _ _)⟩, c5⟩
                · have hne : s.toList.isEmpty = false := by
                    rw [ByteArray.toList_eq]
                    have : s.data.toList.length ≠ 0 := by simpa using hz
                    cases h : s.data.toList with
                    | nil => rw [h] at this; simp at this
                    | cons a l => rfl
                  cases hgo : gO s with
                  | false =>
                    have HZ : Hid (gT s = zT) := by show _ = _; rw [HG.out, if_neg (by rw [hgo]; decide)]
                    have hcmp : ((putT x).toList == s.toList) = false := by
                      rw [beq_eq_false_iff_ne]
                      intro h
                      rw [ByteArray.toList_eq, ByteArray.toList_eq] at h
                      have : putT x = s := ByteArray.ext (Array.ext' h)
                      have := hss.1 ⟨hz, this⟩
                      rw [hgo] at this; cases this
                    have hcmp2 : ((putT x).toList != s.toList) = true := by simp only [bne, hcmp]; rfl
                    clear hss hS hIs
                    go_wp2_with (first | (go_at_call 15; refine Calls.mono hPut ?_; rintro r w4 ⟨rfl, hb4⟩; replace hbE : Below w.heap.size w w4 := hbE.trans (hb4.mono hbE.size); replace HR : Hid (w4.heap[w.heap.size]? = some (.cells #[.int .i64 0, .string ⟨#[]⟩, .slice none 0 0, .string ⟨#[]⟩, .slice none 0 0] 27 (0, 0))) := (hb4.block _ hRl).trans HR.out; replace r0 := cell_later hb4 r0; replace r1 := cell_later hb4 r1; replace r2 := cell_later hb4 r2; replace r3 := cell_later hb4 r3; replace r4 := cell_later hb4 r4; replace rf : ∀ i, w4.frozen? ⟨w.heap.size, i, none⟩ = false := fun i => Lib.frozen_of_heap HR.out i; clear hb4 hb Hg) | fail)
                    obtain ⟨c0, c1, c2, c3, c4, c5, c6, c7⟩ := five_out hbE (Nat.le_refl _) HR.out (.int .i64 0) (.string ⟨#[]⟩) (.slice none 0 0) (.string ⟨#[]⟩) (.slice none 0 0)
                    clear r0 r1 r2 r3 r4 rf HR
                    unfold five at c0 c1 c2 c3 c4 c5 c6 c7
                    generalize (World.setCell (World.setCell (World.setCell (World.setCell (World.setCell w4 ⟨w.heap.size, 0, none⟩ (.int .i64 0)) ⟨w.heap.size, 1, none⟩ (.string ⟨#[]⟩)) ⟨w.heap.size, 2, none⟩ (.slice none 0 0)) ⟨w.heap.size, 3, none⟩ (.string ⟨#[]⟩)) ⟨w.heap.size, 4, none⟩ (.slice none 0 0)) = wF at c0 c1 c2 c3 c4 c5 c6 c7 ⊢
                    refine bodyPost_ret (results_ct rfl _ _ _ _ ⟨w.heap.size, 0, none⟩ rfl (load5 c0 c1 c2 c3 c4)) rfl ⟨⟨.slice none 0 0, .slice none 0 0, [], [], (by rw [HZ.out]; (try rw [hgo]); rfl), (by rw [HZ.out]; exact StpOwn.nil _ _)⟩, c5⟩
                  | true =>
                    have HZ : Hid (gT s = x) := by show _ = _; rw [HG.out, if_pos hgo]
                    have hcmp : ((putT x).toList == s.toList) = true := by rw [(hss.2 hgo).2]; exact beq_self_eq_true _
                    have hcmp2 : ((putT x).toList != s.toList) = false := by simp only [bne, hcmp]; rfl
                    clear hss hS
                    go_wp2_with (first | (go_at_call 15; refine Calls.mono hPut ?_; rintro r w4 ⟨rfl, hb4⟩; replace hbE : Below w.heap.size w w4 := hbE.trans (hb4.mono hbE.size); replace HR : Hid (w4.heap[w.heap.size]? = some (.cells #[.int .i64 0, .string ⟨#[]⟩, .slice none 0 0, .string ⟨#[]⟩, .slice none 0 0] 27 (0, 0))) := (hb4.block _ hRl).trans HR.out; have Hg4 : Hid (StpOwn w4 w.heap.size (.slice ac lc cc) (.slice av lr cv) x g F) := StpOwn.below (w := wr) ⟨Hg.out.1, Hg.out.2.2.1, Hg.out.2.2.2.2.1, Hg.out.2.2.2.2.2.1, Hg.out.2.2.2.2.2.2⟩ hb4; replace r0 := cell_later hb4 r0; replace r1 := cell_later hb4 r1; replace r2 := cell_later hb4 r2; replace r3 := cell_later hb4 r3; replace r4 := cell_later hb4 r4; replace u0 := cell_later hb4 u0; replace u1 := cell_later hb4 u1; replace u2 := cell_later hb4 u2; replace u3 := cell_later hb4 u3; replace u4 := cell_later hb4 u4; replace rf : ∀ i, w4.frozen? ⟨w.heap.size, i, none⟩ = false := fun i => Lib.frozen_of_heap HR.out i; clear hb4 hb uf) | fail)
                    obtain ⟨c0, c1, c2, c3, c4, c5, c6, c7⟩ := five_out hbE (Nat.le_refl _) HR.out (.int .i64 x.k) (.string x.s) (.slice ac lc cc) (.string x.q) (.slice av lr cv)
                    clear r0 r1 r2 r3 r4 rf HR
                    unfold five at c0 c1 c2 c3 c4 c5 c6 c7
                    generalize (World.setCell (World.setCell (World.setCell (World.setCell (World.setCell w4 ⟨w.heap.size, 0, none⟩ (.int .i64 x.k)) ⟨w.heap.size, 1, none⟩ (.string x.s)) ⟨w.heap.size, 2, none⟩ (.slice ac lc cc)) ⟨w.heap.size, 3, none⟩ (.string x.q)) ⟨w.heap.size, 4, none⟩ (.slice av lr cv)) = wF at c0 c1 c2 c3 c4 c5 c6 c7 ⊢
                    have hIsF : StpOwn wF w.heap.size (.slice ac lc cc) (.slice av lr cv) x g F := ⟨Hg4.out.1.keep (Nat.le_of_eq c7.symm) (fun b hb => c6 b (Hg.out.2.1 b hb)), Hg4.out.2.1.keep (Nat.le_of_eq c7.symm) (fun b hb => c6 b (Hg.out.2.2.2.1 b hb)), Hg4.out.2.2.1.keep (fun b hb => c6 b (Hg.out.2.1 b hb)), Hg4.out.2.2.2.1.keep (fun b hb => c6 b (Hg.out.2.2.2.1 b hb)), Hg4.out.2.2.2.2⟩
                    refine bodyPost_ret (results_ct rfl _ _ _ _ ⟨w.heap.size, 0, none⟩ rfl (load5 c0 c1 c2 c3 c4)) rfl ⟨⟨.slice ac lc cc, .slice av lr cv, g, F, (by rw [HZ.out]; (try rw [hgo]); rfl), (by rw [HZ.out]; exact hIsF)⟩, c5⟩
      · have hB1 : ¬ (0 ≤ pv) := by omega
        go_wp2_with (first | (go_at_call 36; with_reducible refine Calls.mono hP5 ?_; rintro r w1 ⟨rfl, hw1⟩; obtain rfl : wr = w1 := hw1.symm) | (go_at_call 29; with_reducible refine Calls.mono (P6 _) ?_; rintro r w1 ⟨rfl, hw1⟩; obtain rfl := hw1) | fail)
        have hS2 : (wr.setCell ⟨w.heap.size + 1, 3, none⟩ (.string (gtV s 2 (sC' s s.size (0, false)).2))).heap[w.heap.size + 1]? = some (.cells #[.int .i64 (gnV s 1 (0, false)), .string (gtV s 2 (sA s s.size (0, false)).2), .slice ac nc cc, .string (gtV s 2 (sC' s s.size (0, false)).2), .slice none 0 0] 27 (0, 0)) := by rw [set_blk hS]; rfl
        have hR2 : (wr.setCell ⟨w.heap.size + 1, 3, none⟩ (.string (gtV s 2 (sC' s s.size (0, false)).2))).heap[w.heap.size]? = some (.cells #[.int .i64 0, .string ⟨#[]⟩, .slice none 0 0, .string ⟨#[]⟩, .slice none 0 0] 27 (0, 0)) := (Below.heap_setCell _ _ _ _ (by intro e; dsimp only at e; omega)).trans hR
        have hneS := own_typ hO hS (by decide)
        have hO2 : (wr.setCell ⟨w.heap.size + 1, 3, none⟩ (.string (gtV s 2 (sC' s s.size (0, false)).2))).ownsRow (w.heap.size + 2) 9 1 (.slice ac nc cc) k (cs.map Value.string) := ownsRow_keep hO fun b hv => Below.heap_setCell _ _ _ _ (by rintro rfl; exact hneS hv)
        have hb2 : Below w.heap.size w (wr.setCell ⟨w.heap.size + 1, 3, none⟩ (.string (gtV s 2 (sC' s s.size (0, false)).2))) := hb.setCell (p := ⟨w.heap.size + 1, 3, none⟩) (by simp) _
        clear hS hR hO hb t2 t3 hneS hP5 P6
        generalize wr.setCell ⟨w.heap.size + 1, 3, none⟩ (.string (gtV s 2 (sC' s s.size (0, false)).2)) = wS at *
        have hSl2 := heap_lt hS2
        have hbO := fun b hb => (ownsRow_lt hO2 b hb).2
        have HE1 : Hid ((sA s s.size (0, false)).2.2 = false → gnV s 1 (0, false) = (sX s s.size (0, false)).k) := by
          intro h1; show _ = _; unfold gnV; rw [if_neg (by rw [show (nm s s.size 1 (0, false)).2.2 = (sA s s.size (0, false)).2.2 from rfl, h1]; decide)]; rfl
        have HE2 : Hid ((sB s s.size (0, false)).2.2 = false → gtV s 2 (sA s s.size (0, false)).2 = (sX s s.size (0, false)).s) := by
          intro h2; show _ = _; unfold gtV; rw [if_neg (by rw [show (tx s s.size 2 (sA s s.size (0, false)).2).2.2 = (sB s s.size (0, false)).2.2 from rfl, h2]; decide)]; rfl
        have HE4 : Hid ((sD s s.size (0, false)).2.2 = false → (gtV s 2 (sC' s s.size (0, false)).2) = (sX s s.size (0, false)).q) := by
          intro h5; show _ = _; unfold gtV; rw [if_neg (by rw [show (tx s s.size 2 (sC' s s.size (0, false)).2).2.2 = (sD s s.size (0, false)).2.2 from rfl, h5]; decide)]; rfl
        obtain ⟨fR, HfR⟩ : ∃ f : Nat → Int, Hid (∀ j, ps (rln s s.size (sM s s.size (0, false)).2 j).2 = f j) := ⟨fun j => ps (rln s s.size (sM s s.size (0, false)).2 j).2, fun _ => rfl⟩
        rw [show ps (sM s s.size (0, false)).2 = fR 0 from HfR.out 0]
        generalize gnV s 1 (0, false) = kA at *
        generalize gtV s 2 (sA s s.size (0, false)).2 = tA at *
        generalize (gtV s 2 (sC' s s.size (0, false)).2) = tD at *
        generalize ps (sA s s.size (0, false)).2 = pA
        generalize ps (sB s s.size (0, false)).2 = pB
        generalize ps (sN s s.size (0, false)).2 = pN
        generalize ps (sD s s.size (0, false)).2 = pD
        go_loopw [17, 18] (fun fr i wq => ∃ (j : Nat) (rs : List R3) (v : Value) (us : List Value) (G : List (List Nat)), j ≤ m ∧ i = .int .i64 j ∧ fr = .int .i64 (fR j) ∧ Hid (rs.length = j) ∧ Hid ((rln s s.size (sM s s.size (0, false)).2 j).2.2 = false → rs = (rln s s.size (sM s s.size (0, false)).2 j).1) ∧ wq.heap[w.heap.size + 1]? = some (.cells #[.int .i64 (kA), .string tA, .slice ac nc cc, .string tD, v] 27 (0, 0)) ∧ wq.heap[w.heap.size]? = some (.cells #[.int .i64 0, .string ⟨#[]⟩, .slice none 0 0, .string ⟨#[]⟩, .slice none 0 0] 27 (0, 0)) ∧ wq.ownsRow (w.heap.size + 2) 9 1 (.slice ac nc cc) k (cs.map Value.string) ∧ RelOwn wq wS.heap.size v rs us G ∧ Below w.heap.size w wq ∧ wS.heap.size ≤ wq.heap.size) (fun _ i _ => m - (intOf i).toNat)
        case atStart => exact ⟨0, [], .slice none 0 0, [], [], Nat.zero_le _, rfl, rfl, rfl, fun _ => rfl, hS2, hR2, hO2, ⟨⟨rfl, .inl ⟨rfl, rfl⟩⟩, rfl, rfl, fun i x u g hx => by simp at hx, by simp [Own, Free], fun b _ => by simp⟩, hb2, Nat.le_refl _⟩
        case round =>
          clear hS2 hR2 hO2 hb2
          obtain ⟨j, rs, v, us, G, hj, rfl, rfl, HLr, HCr, hS, hR, hO, hQ, hb, hzS⟩ := hrel
          by_cases hgo2 : j < m ∧ (rln s s.size (sM s s.size (0, false)).2 j).2.2 = false
          · obtain ⟨hlt, ht⟩ := hgo2
            have hp0 : 0 ≤ fR j := by rw [← HfR.out j, ps_ge ht]; omega
            have hjI : (j : Int) < (m : Int) := by omega
            have hqj : (rln s s.size (sM s s.size (0, false)).2 j).2.1 ≤ s.size := rln_at q6 j
            have hqt : (tx s s.size 2 (rln s s.size (sM s s.size (0, false)).2 j).2).2.1 ≤ s.size := tx_at hqj
            have hP7 := l10Get_any s (rln s s.size (sM s s.size (0, false)).2 j).2 2 wr hqj hs (by omega)
            rw [HfR.out j] at hP7
            have hP8 := l10Get_any s (tx s s.size 2 (rln s s.size (sM s s.size (0, false)).2 j).2).2 4 wr hqt hs (by omega)
            have hsz2 : (gtV s 4 (tx s s.size 2 (rln s s.size (sM s s.size (0, false)).2 j).2).2).size ≤ 1048576 := by
              unfold gtV
              split
              · exact Nat.zero_le _
              · exact Nat.le_trans (tk_size (Nat.le_refl _) (nm_at hqt)) hs
            have hGB := specGetBag_any (gtV s 4 (tx s s.size 2 (rln s s.size (sM s s.size (0, false)).2 j).2).2) wr hsz2
            have HBad : Hid (aB (gtV s 4 (tx s s.size 2 (rln s s.size (sM s s.size (0, false)).2 j).2).2) = false → gO s = false) := by
              intro hab
              have h1 : (rln s s.size (sM s s.size (0, false)).2 (j + 1)).2.2 = true := rl_bad hab
              have h2 := rln_torn (q := (sM s s.size (0, false)).2) _ ht
              have h3 := HmT.out h2
              have h4 : (sE s s.size (0, false)).2.2 = true := by
                have := rln_late (s := s) (e := s.size) (q := (sM s s.size (0, false)).2) (k := j + 1) (d := m - (j + 1)) h1
                rw [show j + 1 + (m - (j + 1)) = (sM s s.size (0, false)).1.toNat by omega] at this
                exact this
              unfold gO sO sT
              rw [h4]; rfl
            have HNx : Hid (aB (gtV s 4 (tx s s.size 2 (rln s s.size (sM s s.size (0, false)).2 j).2).2) = true → ps (tx s s.size 4 (tx s s.size 2 (rln s s.size (sM s s.size (0, false)).2 j).2).2).2 = fR (j + 1)) := fun hab => by show _ = _; rw [← HfR.out]; exact ps_rl hab
            have HEq : Hid ((rln s s.size (sM s s.size (0, false)).2 (j + 1)).2.2 = false → rs ++ [⟨gtV s 2 (rln s s.size (sM s s.size (0, false)).2 j).2, aW (gtV s 4 (tx s s.size 2 (rln s s.size (sM s s.size (0, false)).2 j).2).2), aC (gtV s 4 (tx s s.size 2 (rln s s.size (sM s s.size (0, false)).2 j).2).2)⟩] = (rln s s.size (sM s s.size (0, false)).2 (j + 1)).1) := by
              intro h
              rw [rl_eq (q := (rln s s.size (sM s s.size (0, false)).2 j).2) h, HCr.out ht]; rfl
            generalize gtV s 2 (rln s s.size (sM s s.size (0, false)).2 j).2 = T1 at *
            generalize gtV s 4 (tx s s.size 2 (rln s s.size (sM s s.size (0, false)).2 j).2).2 = T2 at *
            generalize ps (tx s s.size 4 (tx s s.size 2 (rln s s.size (sM s s.size (0, false)).2 j).2).2).2 = p3 at *
            generalize ps (tx s s.size 2 (rln s s.size (sM s s.size (0, false)).2 j).2).2 = p2 at *
            go_wp2_with (first | (go_at_call 36; with_reducible refine Calls.mono hP7 ?_; rintro r w1 ⟨rfl, hw1⟩; obtain rfl : wr = w1 := hw1.symm) | (go_at_call 36; with_reducible refine Calls.mono hP8 ?_; rintro r w1 ⟨rfl, hw1⟩; obtain rfl : wr = w1 := hw1.symm) | (go_at_call 37; with_reducible refine Calls.mono hGB ?_) | fail)
            rintro r w3 ⟨⟨u3, us3, G3, rfl, hBag⟩, hb3⟩
            obtain ⟨a3, c3, rfl⟩ := hBag.shape
            cases hab : aB T2
            · as_aux_lemma =>
                have hgo := HBad.out hab
                have HZ : Hid (gT s = zT) := by show _ = _; unfold gT; rw [if_neg (by rw [show sO s s.size (0, false) = gO s from rfl, hgo]; decide)]
                have hR3 : (w3.alloc (.cells #[.int .i64 (aW T2), .slice a3 (aC T2).length c3] 71)).heap[w.heap.size]? = some (.cells #[.int .i64 0, .string ⟨#[]⟩, .slice none 0 0, .string ⟨#[]⟩, .slice none 0 0] 27 (0, 0)) := (heap_alloc_old w3 _ (Nat.lt_of_lt_of_le (heap_lt hR) hb3.size)).trans ((hb3.block _ (heap_lt hR)).trans hR)
                have hbE : Below w.heap.size w (w3.alloc (.cells #[.int .i64 (aW T2), .slice a3 (aC T2).length c3] 71)) := (hb.trans (hb3.mono hb.size)).alloc (Nat.le_trans hb.size hb3.size) _
                clear hR hS hO hQ hb hb3 hBag HBad HNx HEq HCr HLr hP7 hP8 hGB
                clear HE1 HE2 HE4 HfR q1 q2 q3 q4 q5 q6 HnT HmT hn255 hm255 hcase2 hexit0 HL HP HC2 hi hz0 hz1 hz2 hj0 hy0 hy1 hy2 hSl2 hbO
                go_upto_region 22 with fail
                generalize w3.alloc (.cells #[.int .i64 (aW T2), .slice a3 (aC T2).length c3] 71) = wb at *
                have r0 : wb.cell? ⟨w.heap.size, 0, none⟩ = some (.int .i64 0) := by rw [Lib.cell_of_heap hR3]; rfl
                have r1 : wb.cell? ⟨w.heap.size, 1, none⟩ = some (.string ⟨#[]⟩) := by rw [Lib.cell_of_heap hR3]; rfl
                have r2 : wb.cell? ⟨w.heap.size, 2, none⟩ = some (.slice none 0 0) := by rw [Lib.cell_of_heap hR3]; rfl
                have r3 : wb.cell? ⟨w.heap.size, 3, none⟩ = some (.string ⟨#[]⟩) := by rw [Lib.cell_of_heap hR3]; rfl
                have r4 : wb.cell? ⟨w.heap.size, 4, none⟩ = some (.slice none 0 0) := by rw [Lib.cell_of_heap hR3]; rfl
                have rf : ∀ i, wb.frozen? ⟨w.heap.size, i, none⟩ = false := fun i => Lib.frozen_of_heap hR3 i
                have hRl := heap_lt hR3
                have HR : Hid (wb.heap[w.heap.size]? = some (.cells #[.int .i64 0, .string ⟨#[]⟩, .slice none 0 0, .string ⟨#[]⟩, .slice none 0 0] 27 (0, 0))) := hR3
                clear hR3
                go_wp2
                obtain ⟨c0, c1, c2, c3, c4, c5, c6, c7⟩ := five_out hbE (Nat.le_refl _) HR.out (.int .i64 0) (.string ⟨#[]⟩) (.slice none 0 0) (.string ⟨#[]⟩) (.slice none 0 0)
                clear r0 r1 r2 r3 r4 rf HR
                unfold five at c0 c1 c2 c3 c4 c5 c6 c7
                generalize (World.setCell (World.setCell (World.setCell (World.setCell (World.setCell wb ⟨w.heap.size, 0, none⟩ (.int .i64 0)) ⟨w.heap.size, 1, none⟩ (.string ⟨#[]⟩)) ⟨w.heap.size, 2, none⟩ (.slice none 0 0)) ⟨w.heap.size, 3, none⟩ (.string ⟨#[]⟩)) ⟨w.heap.size, 4, none⟩ (.slice none 0 0)) = wF at c0 c1 c2 c3 c4 c5 c6 c7 ⊢
                refine bodyPost_ret (results_ct rfl _ _ _ _ ⟨w.heap.size, 0, none⟩ rfl (load5 c0 c1 c2 c3 c4)) rfl ⟨⟨.slice none 0 0, .slice none 0 0, [], [], (by rw [HZ.out]; (try rw [hgo]); rfl), (by rw [HZ.out]; exact StpOwn.nil _ _)⟩, c5⟩
            · as_aux_lemma =>
                have hnx := HNx.out hab
                obtain ⟨F2, hF2, hO2⟩ := hBag.rowsF
                have hGl := hQ.lt
                have hul := ownsRow_lt hQ.own
                have hSl3 := heap_lt hS
                have hRl3 := heap_lt hR
                have hzr := hb3.size
                have hbO3 := fun b hb => (ownsRow_lt hO b hb).2
                have bal : Below w3.heap.size w3 ((w3.alloc (.cells #[.int .i64 (aW T2), .slice a3 (aC T2).length c3] 71)).alloc (.cells #[.string T1, .int .i64 (aW T2), .slice a3 (aC T2).length c3] 73)) := ((Below.refl _ _).alloc (Nat.le_refl _) _).alloc (by simp) _
                have bA : Below wr.heap.size wr ((w3.alloc (.cells #[.int .i64 (aW T2), .slice a3 (aC T2).length c3] 71)).alloc (.cells #[.string T1, .int .i64 (aW T2), .slice a3 (aC T2).length c3] 73)) := hb3.trans (bal.mono hzr)
                have hS4 : ((w3.alloc (.cells #[.int .i64 (aW T2), .slice a3 (aC T2).length c3] 71)).alloc (.cells #[.string T1, .int .i64 (aW T2), .slice a3 (aC T2).length c3] 73)).heap[w.heap.size + 1]? = some (.cells #[.int .i64 kA, .string tA, .slice ac nc cc, .string tD, v] 27 (0, 0)) := (bA.block _ hSl3).trans hS
                have hR4 : ((w3.alloc (.cells #[.int .i64 (aW T2), .slice a3 (aC T2).length c3] 71)).alloc (.cells #[.string T1, .int .i64 (aW T2), .slice a3 (aC T2).length c3] 73)).heap[w.heap.size]? = some (.cells #[.int .i64 0, .string ⟨#[]⟩, .slice none 0 0, .string ⟨#[]⟩, .slice none 0 0] 27 (0, 0)) := (bA.block _ hRl3).trans hR
                have hO4 : ((w3.alloc (.cells #[.int .i64 (aW T2), .slice a3 (aC T2).length c3] 71)).alloc (.cells #[.string T1, .int .i64 (aW T2), .slice a3 (aC T2).length c3] 73)).ownsRow (w.heap.size + 2) 9 1 (.slice ac nc cc) k (cs.map Value.string) := ownsRow_keep hO fun b hv => bA.block b (hbO3 b hv)
                have hQ4 := hQ.below bA
                have hbE : Below w.heap.size w ((w3.alloc (.cells #[.int .i64 (aW T2), .slice a3 (aC T2).length c3] 71)).alloc (.cells #[.string T1, .int .i64 (aW T2), .slice a3 (aC T2).length c3] 73)) := hb.trans (bA.mono hb.size)
                have hF4 := hF2.below bal
                have hOw4 : Own ((w3.alloc (.cells #[.int .i64 (aW T2), .slice a3 (aC T2).length c3] 71)).alloc (.cells #[.string T1, .int .i64 (aW T2), .slice a3 (aC T2).length c3] 73)) wS.heap.size F2 := ⟨hO2.1, fun b hb => Nat.le_trans hzS (hO2.2.1 b hb), fun b hb i => (frozen_blk (bal.block _ (hF2.lt b hb))).trans (hO2.2.2 b hb i)⟩
                have hd1 : ∀ b ∈ G.flatten, b ∉ F2 := fun b hb hb2 => by have := hO2.2.1 b hb2; have := hGl b hb; omega
                have hd2 : ∀ b, v.ownBlock = some b → b ∉ F2 := fun b hb hb2 => by have := hO2.2.1 b hb2; have := (hul b hb).2; omega
                have hrl : ((w3.alloc (.cells #[.int .i64 (aW T2), .slice a3 (aC T2).length c3] 71)).alloc (.cells #[.string T1, .int .i64 (aW T2), .slice a3 (aC T2).length c3] 73)).heap[w3.heap.size + 1]? = some (.cells #[.string T1, .int .i64 (aW T2), .slice a3 (aC T2).length c3] 73 (0, 0)) := alloc2_new _ _ _
                obtain ⟨av, cv, rfl⟩ := hQ.shape
                have t0 : w3.cell? ⟨w.heap.size + 1, 4, none⟩ = some (.slice av rs.length cv) := by rw [Lib.cell_of_heap ((hb3.block _ hSl3).trans hS)]; rfl
                have hl3 : w.heap.size + 1 < w3.heap.size := by omega
                have hlenJ : rs.length = j := HLr.out
                have HLJ : Hid (rs.length = j) := hlenJ
                have hz4 : wS.heap.size ≤ w3.heap.size := by omega
                have hml : rs.length ≤ 255 := by omega
                clear hlenJ hb3 hBag hO hQ hb hS hR hO2 hF2 HBad HCr HLr hP7 hP8 hGB HNx bA bal
                have ho4 := hQ4.own
                go_wp2_with (at_builtin; (refine wpList_append_own_at _ rfl _ _ 25 rfl wS.heap.size 73 j0 _ 3 48 Tryz.underlying25 hj0 hy0 hy1 hy2 rfl (by decide) _ _ _ rfl ho4 ⟨w3.heap.size + 1, 0, none⟩ 1 1 [.string T1, .int .i64 (aW T2), .slice a3 (aC T2).length c3] rfl (by simp) ?c1 ?c2 ?c3 ?c4 ?c5 ?_))
                case c1 => exact World.news_of_block (cs := #[.string T1, .int .i64 (aW T2), .slice a3 (aC T2).length c3]) (t := 73) (fr := (0, 0)) hrl
                case c2 => simp [Value.oneCell']
                case c3 => unfold maxLen; omega
                case c4 => omega
                case c5 => simp; omega
                intro v' w5 hown' hgrow _ hat
                have hneS := own_typ ho4 hS4 (by decide)
                have hneR := own_typ ho4 hR4 (by decide)
                have hS5 : w5.heap[w.heap.size + 1]? = some (.cells #[.int .i64 kA, .string tA, .slice ac nc cc, .string tD, .slice av rs.length cv] 27 (0, 0)) := (hgrow.block _ (heap_lt hS4) (fun e => hneS e.symm)).trans hS4
                have hR5 : w5.heap[w.heap.size]? = some (.cells #[.int .i64 0, .string ⟨#[]⟩, .slice none 0 0, .string ⟨#[]⟩, .slice none 0 0] 27 (0, 0)) := (hgrow.block _ (heap_lt hR4) (fun e => hneR e.symm)).trans hR4
                have hO5 : w5.ownsRow (w.heap.size + 2) 9 1 (.slice ac nc cc) k (cs.map Value.string) := ownsRow_keep hO4 fun b hv => hgrow.block b (ownsRow_lt hO4 b hv).2 (fun e => by have h1 := (hul b e.symm).1; have h2 := hbO b hv; omega)
                have hQ5 := RelOwn.push (x := ⟨T1, aW T2, aC T2⟩) hQ4 hF4 hOw4 hd1 hd2 hown' hgrow (fun b hb => by
                  rcases hat with e | e
                  · left; rw [← e]; exact hb
                  · right; rw [e] at hb; cases hb; simp)
                have hb5 : Below w.heap.size w w5 := hbE.grown hgrow (by simp; omega) (fun b hb => by have := (hul b hb).1; omega)
                have hne5 := own_typ hown' hS5 (by decide)
                have hsz5 := hgrow.size
                simp only [World.size_alloc] at hsz5
                have hs5 : ∃ ao n' cap, v' = .slice ao n' cap := by
                  rcases hown'.2 with ⟨hv, _⟩ | ⟨g, cap, cur, hv, _⟩ <;> exact ⟨_, _, _, hv⟩
                obtain ⟨ao, n', cap, rfl⟩ := hs5
                have t3 : w5.cell? ⟨w.heap.size + 1, 4, none⟩ = some (.slice av rs.length cv) := by rw [Lib.cell_of_heap hS5]; rfl
                have t4 : w5.frozen? ⟨w.heap.size + 1, 4, none⟩ = false := Lib.frozen_of_heap hS5 4
                have hS6 : (w5.setCell ⟨w.heap.size + 1, 4, none⟩ (.slice ao n' cap)).heap[w.heap.size + 1]? = some (.cells #[.int .i64 kA, .string tA, .slice ac nc cc, .string tD, .slice ao n' cap] 27 (0, 0)) := by rw [set_blk hS5]; rfl
                have hR6 : (w5.setCell ⟨w.heap.size + 1, 4, none⟩ (.slice ao n' cap)).heap[w.heap.size]? = some (.cells #[.int .i64 0, .string ⟨#[]⟩, .slice none 0 0, .string ⟨#[]⟩, .slice none 0 0] 27 (0, 0)) := (Below.heap_setCell _ _ _ _ (by intro e; dsimp only at e; omega)).trans hR5
                have hneO := own_typ hO5 hS5 (by decide)
                have hO6 : (w5.setCell ⟨w.heap.size + 1, 4, none⟩ (.slice ao n' cap)).ownsRow (w.heap.size + 2) 9 1 (.slice ac nc cc) k (cs.map Value.string) := ownsRow_keep hO5 fun b hv => Below.heap_setCell _ _ _ _ (by rintro rfl; exact hneO hv)
                have hQ6 := hQ5.keepF (w' := w5.setCell ⟨w.heap.size + 1, 4, none⟩ (.slice ao n' cap)) (by simp) (fun b hv => Below.heap_setCell _ _ _ _ (by rintro rfl; exact hne5 hv)) (fun b hb => Below.heap_setCell _ _ _ _ (by intro e; have := hQ5.free.2.1 _ hb; dsimp only at e; omega))
                have hb6 : Below w.heap.size w (w5.setCell ⟨w.heap.size + 1, 4, none⟩ (.slice ao n' cap)) := hb5.setCell (p := ⟨w.heap.size + 1, 4, none⟩) (by simp) _
                have hz6 : wS.heap.size ≤ (w5.setCell ⟨w.heap.size + 1, 4, none⟩ (.slice ao n' cap)).heap.size := by simp; omega
                have HL6 : Hid ((rs ++ [(⟨T1, aW T2, aC T2⟩ : R3)]).length = j + 1) := by show _ = _; rw [List.length_append, HLJ.out]; rfl
                have HQ6 : Hid (RelOwn (w5.setCell ⟨w.heap.size + 1, 4, none⟩ (.slice ao n' cap)) wS.heap.size (.slice ao n' cap) (rs ++ [⟨T1, aW T2, aC T2⟩]) (us ++ [.slice a3 (aC T2).length c3]) (G ++ [F2])) := hQ6
                clear hQ4 hQ5 hQ6 hown' hgrow hat hF4 hOw4 hO4 hO5 hS4 hS5 hR4 hR5 ho4 hb5 hbE t0 hrl hne5 hneS hneR hneO
                go_wp2
                exact ⟨⟨j + 1, rs ++ [⟨T1, aW T2, aC T2⟩], _, _, _, hlt, by simp, (by first | rfl | rw [hnx]), HL6, HEq, hS6, hR6, hO6, HQ6.out, hb6, hz6⟩, by simp [intOf]; omega⟩
          · as_aux_lemma =>
              have hexit : (j : Int) < (m : Int) → fR j < 0 := by
                intro h1
                rw [← HfR.out j]
                cases ht : (rln s s.size (sM s s.size (0, false)).2 j).2.2
                · exact absurd ⟨by omega, ht⟩ hgo2
                · rw [ps_lt ht]; decide
              have HP : Hid (fR j = ps (sE s s.size (0, false)).2) := by
                show _ = _
                rw [← HfR.out j]
                cases ht : (sM s s.size (0, false)).2.2 with
                | true =>
                  have h1 : (rln s s.size (sM s s.size (0, false)).2 j).2.2 = true := by have := rln_late (s := s) (e := s.size) (q := (sM s s.size (0, false)).2) (k := 0) (d := j) ht; rwa [Nat.zero_add] at this
                  have h2 : (sE s s.size (0, false)).2.2 = true := by have := rln_late (s := s) (e := s.size) (q := (sM s s.size (0, false)).2) (k := 0) (d := (sM s s.size (0, false)).1.toNat) ht; rwa [Nat.zero_add] at this
                  rw [ps_lt h1, ps_lt h2]
                | false =>
                  have hnn := HmT.out ht
                  by_cases h1 : j < m
                  · have h2 := hexit (by omega)
                    rw [← HfR.out j] at h2
                    have h3 : (rln s s.size (sM s s.size (0, false)).2 j).2.2 = true := by
                      cases h4 : (rln s s.size (sM s s.size (0, false)).2 j).2.2 with
                      | true => rfl
                      | false => rw [ps_ge h4] at h2; omega
                    have h5 : (sE s s.size (0, false)).2.2 = true := by
                      have := rln_late (s := s) (e := s.size) (q := (sM s s.size (0, false)).2) (k := j) (d := m - j) h3
                      rw [show j + (m - j) = (sM s s.size (0, false)).1.toNat by omega] at this
                      exact this
                    rw [ps_lt h3, ps_lt h5]
                  · have : j = (sM s s.size (0, false)).1.toNat := by omega
                    rw [this]; rfl
              have HCE : Hid ((sE s s.size (0, false)).2.2 = false → rs = (sE s s.size (0, false)).1) := by
                intro h
                have h0 := rln_torn (q := (sM s s.size (0, false)).2) _ h
                have hnn := HmT.out h0
                have h1 : ¬ j < m := by
                  intro h1
                  have h2 := hexit (by omega)
                  have h3 := HP.out
                  rw [ps_ge h] at h3
                  omega
                have : j = (sM s s.size (0, false)).1.toNat := by omega
                have h4 := HCr.out (by rw [this]; exact h)
                rw [h4, this]; rfl
              have r0 : wr.cell? ⟨w.heap.size, 0, none⟩ = some (.int .i64 0) := by rw [Lib.cell_of_heap hR]; rfl
              have r1 : wr.cell? ⟨w.heap.size, 1, none⟩ = some (.string ⟨#[]⟩) := by rw [Lib.cell_of_heap hR]; rfl
              have r2 : wr.cell? ⟨w.heap.size, 2, none⟩ = some (.slice none 0 0) := by rw [Lib.cell_of_heap hR]; rfl
              have r3 : wr.cell? ⟨w.heap.size, 3, none⟩ = some (.string ⟨#[]⟩) := by rw [Lib.cell_of_heap hR]; rfl
              have r4 : wr.cell? ⟨w.heap.size, 4, none⟩ = some (.slice none 0 0) := by rw [Lib.cell_of_heap hR]; rfl
              have rf : ∀ i, wr.frozen? ⟨w.heap.size, i, none⟩ = false := fun i => Lib.frozen_of_heap hR i
              have hRl := heap_lt hR
              have hSl := heap_lt hS
              have HR : Hid (wr.heap[w.heap.size]? = some (.cells #[.int .i64 0, .string ⟨#[]⟩, .slice none 0 0, .string ⟨#[]⟩, .slice none 0 0] 27 (0, 0))) := hR
              have hbE : Below w.heap.size w wr := hb
              clear hR hi hz0 hz1 hz2 hj0 hy0 hy1 hy2 q1 q2 q3 q4 q5 q6 hn255 hm255 hcase2 hexit0
              have hRS : w.heap.size ≠ w.heap.size + 1 := by omega
              by_cases hneg : fR j < 0
              · have hgo : gO s = false := by
                  have h4 : (sE s s.size (0, false)).2.2 = true := by
                    cases h4 : (sE s s.size (0, false)).2.2 with
                    | true => rfl
                    | false => have := HP.out; rw [ps_ge h4] at this; omega
                  unfold gO sO sT
                  rw [h4]; rfl
                have HZ : Hid (gT s = zT) := by show _ = _; unfold gT; rw [if_neg (by rw [show sO s s.size (0, false) = gO s from rfl, hgo]; decide)]
                clear HE1 HE2 HE4 HfR HCE HC2 HP HnT HmT hO hQ hS HCr HLr HL
                have hB2 : ¬ (0 ≤ fR j) := by omega
                generalize fR j = pw at *
                by_cases hA2 : (j : Int) < (m : Int)
                · clear hexit
                  go_wp2
                  obtain ⟨c0, c1, c2, c3, c4, c5, c6, c7⟩ := five_out hbE (Nat.le_refl _) HR.out (.int .i64 0) (.string ⟨#[]⟩) (.slice none 0 0) (.string ⟨#[]⟩) (.slice none 0 0)
                  clear r0 r1 r2 r3 r4 rf HR
                  unfold five at c0 c1 c2 c3 c4 c5 c6 c7
                  generalize (World.setCell (World.setCell (World.setCell (World.setCell (World.setCell wr ⟨w.heap.size, 0, none⟩ (.int .i64 0)) ⟨w.heap.size, 1, none⟩ (.string ⟨#[]⟩)) ⟨w.heap.size, 2, none⟩ (.slice none 0 0)) ⟨w.heap.size, 3, none⟩ (.string ⟨#[]⟩)) ⟨w.heap.size, 4, none⟩ (.slice none 0 0)) = wF at c0 c1 c2 c3 c4 c5 c6 c7 ⊢
                  refine bodyPost_ret (results_ct rfl _ _ _ _ ⟨w.heap.size, 0, none⟩ rfl (load5 c0 c1 c2 c3 c4)) rfl ⟨⟨.slice none 0 0, .slice none 0 0, [], [], (by rw [HZ.out]; (try rw [hgo]); rfl), (by rw [HZ.out]; exact StpOwn.nil _ _)⟩, c5⟩
                · clear hexit
                  go_wp2
                  obtain ⟨c0, c1, c2, c3, c4, c5, c6, c7⟩ := five_out hbE (Nat.le_refl _) HR.out (.int .i64 0) (.string ⟨#[]⟩) (.slice none 0 0) (.string ⟨#[]⟩) (.slice none 0 0)
                  clear r0 r1 r2 r3 r4 rf HR
                  unfold five at c0 c1 c2 c3 c4 c5 c6 c7
                  generalize (World.setCell (World.setCell (World.setCell (World.setCell (World.setCell wr ⟨w.heap.size, 0, none⟩ (.int .i64 0)) ⟨w.heap.size, 1, none⟩ (.string ⟨#[]⟩)) ⟨w.heap.size, 2, none⟩ (.slice none 0 0)) ⟨w.heap.size, 3, none⟩ (.string ⟨#[]⟩)) ⟨w.heap.size, 4, none⟩ (.slice none 0 0)) = wF at c0 c1 c2 c3 c4 c5 c6 c7 ⊢
                  refine bodyPost_ret (results_ct rfl _ _ _ _ ⟨w.heap.size, 0, none⟩ rfl (load5 c0 c1 c2 c3 c4)) rfl ⟨⟨.slice none 0 0, .slice none 0 0, [], [], (by rw [HZ.out]; (try rw [hgo]); rfl), (by rw [HZ.out]; exact StpOwn.nil _ _)⟩, c5⟩
              · have hA2 : ¬ ((j : Int) < (m : Int)) := fun h => hneg (hexit h)
                have hT : (sE s s.size (0, false)).2.2 = false := by
                  cases h4 : (sE s s.size (0, false)).2.2 with
                  | false => rfl
                  | true => have := HP.out; rw [ps_lt h4] at this; omega
                have h6 := rln_torn (q := (sM s s.size (0, false)).2) _ hT
                have h5 := nm_torn (q := (sD s s.size (0, false)).2) h6
                have h4 := (tx_torn (q := (sC' s s.size (0, false)).2) h5).2
                have h3 := csn_torn (q := (sN s s.size (0, false)).2) _ h4
                have h2 := nm_torn (q := (sB s s.size (0, false)).2) h3
                have h1 := (tx_torn (q := (sA s s.size (0, false)).2) h2).2
                have E1 := HE1.out h1
                have E2 := HE2.out h2
                have E3 : cs = (sX s s.size (0, false)).cs := HC2.out h4
                have E4 := HE4.out h5
                have E5 : rs = (sX s s.size (0, false)).rs := HCE.out hT
                have hss := step_same s hT
                have hwf := sX_wf (s := s) (e := s.size) (q := (0, false)) (Nat.le_refl _) hs (Nat.zero_le _)
                have HG : Hid (gT s = if gO s = true then sX s s.size (0, false) else zT) := rfl
                have hlk : cs.length = k := HL.out
                obtain ⟨av, cv, rfl⟩ := hQ.shape
                rw [E1, E2, E4] at hS
                subst E3 E5
                rw [← hlk] at hO
                obtain ⟨g, hg, hgO, hgB⟩ := strs_own hO
                obtain ⟨F, hF, hFO⟩ := hQ.relsF
                obtain ⟨e1, e2, e3, _, _⟩ := hg.shape
                obtain ⟨rfl, rfl, rfl⟩ : ac = e1 ∧ nc = (sX s s.size (0, false)).cs.length ∧ cc = e2 := by injection e3 with a b c; exact ⟨a, b, c⟩
                have hIs : StpIs wr (.slice ac (sX s s.size (0, false)).cs.length cc) (.slice av (sX s s.size (0, false)).rs.length cv) (sX s s.size (0, false)) := ⟨⟨g, hg⟩, hF.is⟩
                have Hg : Hid (StrsF wr (.slice ac (sX s s.size (0, false)).cs.length cc) (sX s s.size (0, false)).cs g ∧ (∀ b ∈ g, b ≠ w.heap.size) ∧ RelsF wr (.slice av (sX s s.size (0, false)).rs.length cv) (sX s s.size (0, false)).rs F ∧ (∀ b ∈ F, b ≠ w.heap.size) ∧ Own wr w.heap.size g ∧ Own wr w.heap.size F ∧ ∀ b ∈ g, b ∉ F) := ⟨hg, (fun b hb e => by have := hgO.2.1 b hb; omega), hF, (fun b hb e => by have := hFO.2.1 b hb; omega), ⟨hgO.1, (fun b hb => by have := hgO.2.1 b hb; omega), hgO.2.2⟩, ⟨hFO.1, (fun b hb => by have := hFO.2.1 b hb; omega), hFO.2.2⟩, fun b hb hb2 => by have h8 := hbO b (hgB b hb); have h9 := hFO.2.1 b hb2; omega⟩
                have hPut := specPutStep_any (sX s s.size (0, false)) _ _ wr hwf hIs
                clear HE1 HE2 HE4 HfR HCE HC2 HP HnT HmT hO hQ HCr HLr HL h1 h2 h3 h4 h5 h6 E1 E2 E4 hg hF hgO hFO hgB hlk hwf hexit
                generalize sX s s.size (0, false) = x at *
                generalize fR j = pw at *
                generalize x.cs.length = lc at *
                generalize x.rs.length = lr at *
                have u0 : wr.cell? ⟨w.heap.size + 1, 0, none⟩ = some (.int .i64 x.k) := by rw [Lib.cell_of_heap hS]; rfl
                have u1 : wr.cell? ⟨w.heap.size + 1, 1, none⟩ = some (.string x.s) := by rw [Lib.cell_of_heap hS]; rfl
                have u2 : wr.cell? ⟨w.heap.size + 1, 2, none⟩ = some (.slice ac lc cc) := by rw [Lib.cell_of_heap hS]; rfl
                have u3 : wr.cell? ⟨w.heap.size + 1, 3, none⟩ = some (.string x.q) := by rw [Lib.cell_of_heap hS]; rfl
                have u4 : wr.cell? ⟨w.heap.size + 1, 4, none⟩ = some (.slice av lr cv) := by rw [Lib.cell_of_heap hS]; rfl
                have uf : ∀ i, wr.frozen? ⟨w.heap.size + 1, i, none⟩ = false := fun i => Lib.frozen_of_heap hS i
                by_cases hz : s.size = 0
                · have hgo : gO s = false := by
                    cases h : gO s with
                    | false => rfl
                    | true => exact absurd hz (hss.2 h).1
                  have HZ : Hid (gT s = zT) := by show _ = _; rw [HG.out, if_neg (by rw [hgo]; decide)]
                  have hnil : s.toList = [] := by rw [ByteArray.toList_eq]; exact List.eq_nil_of_length_eq_zero (by simpa using hz)
                  clear hPut hIs hss hS
                  go_wp2
                  obtain ⟨c0, c1, c2, c3, c4, c5, c6, c7⟩ := five_out hbE (Nat.le_refl _) HR.out (.int .i64 0) (.string ⟨#[]⟩) (.slice none 0 0) (.string ⟨#[]⟩) (.slice none 0 0)
                  clear r0 r1 r2 r3 r4 rf HR
                  unfold five at c0 c1 c2 c3 c4 c5 c6 c7
                  generalize (World.setCell (World.setCell (World.setCell (World.setCell (World.setCell wr ⟨w.heap.size, 0, none⟩ (.int .i64 0)) ⟨w.heap.size, 1, none⟩ (.string ⟨#[]⟩)) ⟨w.heap.size, 2, none⟩ (.slice none 0 0)) ⟨w.heap.size, 3, none⟩ (.string ⟨#[]⟩)) ⟨w.heap.size, 4, none⟩ (.slice none 0 0)) = wF at c0 c1 c2 c3 c4 c5 c6 c7 ⊢
                  refine bodyPost_ret (results_ct rfl _ _ _ _ ⟨w.heap.size, 0, none⟩ rfl (load5 c0 c1 c2 c3 c4)) rfl ⟨⟨.slice none 0 0, .slice none 0 0, [], [], (by rw [HZ.out]; (try rw [hgo]); rfl), (by rw [HZ.out]; exact StpOwn.nil _ _)⟩, c5⟩
                · have hne : s.toList.isEmpty = false := by
                    rw [ByteArray.toList_eq]
                    have : s.data.toList.length ≠ 0 := by simpa using hz
                    cases h : s.data.toList with
                    | nil => rw [h] at this; simp at this
                    | cons a l => rfl
                  cases hgo : gO s with
                  | false =>
                    have HZ : Hid (gT s = zT) := by show _ = _; rw [HG.out, if_neg (by rw [hgo]; decide)]
                    have hcmp : ((putT x).toList == s.toList) = false := by
                      rw [beq_eq_false_iff_ne]
                      intro h
                      rw [ByteArray.toList_eq, ByteArray.toList_eq] at h
                      have : putT x = s := ByteArray.ext (Array.ext' h)
                      have := hss.1 ⟨hz, this⟩
                      rw [hgo] at this; cases this
                    have hcmp2 : ((putT x).toList != s.toList) = true := by simp only [bne, hcmp]; rfl
                    clear hss hS hIs
                    go_wp2_with (first | (go_at_call 15; refine Calls.mono hPut ?_; rintro r w4 ⟨rfl, hb4⟩; replace hbE : Below w.heap.size w w4 := hbE.trans (hb4.mono hbE.size); replace HR : Hid (w4.heap[w.heap.size]? = some (.cells #[.int .i64 0, .string ⟨#[]⟩, .slice none 0 0, .string ⟨#[]⟩, .slice none 0 0] 27 (0, 0))) := (hb4.block _ hRl).trans HR.out; replace r0 := cell_later hb4 r0; replace r1 := cell_later hb4 r1; replace r2 := cell_later hb4 r2; replace r3 := cell_later hb4 r3; replace r4 := cell_later hb4 r4; replace rf : ∀ i, w4.frozen? ⟨w.heap.size, i, none⟩ = false := fun i => Lib.frozen_of_heap HR.out i; clear hb4 hb Hg) | fail)
                    obtain ⟨c0, c1, c2, c3, c4, c5, c6, c7⟩ := five_out hbE (Nat.le_refl _) HR.out (.int .i64 0) (.string ⟨#[]⟩) (.slice none 0 0) (.string ⟨#[]⟩) (.slice none 0 0)
                    clear r0 r1 r2 r3 r4 rf HR
                    unfold five at c0 c1 c2 c3 c4 c5 c6 c7
                    generalize (World.setCell (World.setCell (World.setCell (World.setCell (World.setCell w4 ⟨w.heap.size, 0, none⟩ (.int .i64 0)) ⟨w.heap.size, 1, none⟩ (.string ⟨#[]⟩)) ⟨w.heap.size, 2, none⟩ (.slice none 0 0)) ⟨w.heap.size, 3, none⟩ (.string ⟨#[]⟩)) ⟨w.heap.size, 4, none⟩ (.slice none 0 0)) = wF at c0 c1 c2 c3 c4 c5 c6 c7 ⊢
                    refine bodyPost_ret (results_ct rfl _ _ _ _ ⟨w.heap.size, 0, none⟩ rfl (load5 c0 c1 c2 c3 c4)) rfl ⟨⟨.slice none 0 0, .slice none 0 0, [], [], (by rw [HZ.out]; (try rw [hgo]); rfl), (by rw [HZ.out]; exact StpOwn.nil _ _)⟩, c5⟩
                  | true =>
                    have HZ : Hid (gT s = x) := by show _ = _; rw [HG.out, if_pos hgo]
                    have hcmp : ((putT x).toList == s.toList) = true := by rw [(hss.2 hgo).2]; exact beq_self_eq_true _
                    have hcmp2 : ((putT x).toList != s.toList) = false := by simp only [bne, hcmp]; rfl
                    clear hss hS
                    go_wp2_with (first | (go_at_call 15; refine Calls.mono hPut ?_; rintro r w4 ⟨rfl, hb4⟩; replace hbE : Below w.heap.size w w4 := hbE.trans (hb4.mono hbE.size); replace HR : Hid (w4.heap[w.heap.size]? = some (.cells #[.int .i64 0, .string ⟨#[]⟩, .slice none 0 0, .string ⟨#[]⟩, .slice none 0 0] 27 (0, 0))) := (hb4.block _ hRl).trans HR.out; have Hg4 : Hid (StpOwn w4 w.heap.size (.slice ac lc cc) (.slice av lr cv) x g F) := StpOwn.below (w := wr) ⟨Hg.out.1, Hg.out.2.2.1, Hg.out.2.2.2.2.1, Hg.out.2.2.2.2.2.1, Hg.out.2.2.2.2.2.2⟩ hb4; replace r0 := cell_later hb4 r0; replace r1 := cell_later hb4 r1; replace r2 := cell_later hb4 r2; replace r3 := cell_later hb4 r3; replace r4 := cell_later hb4 r4; replace u0 := cell_later hb4 u0; replace u1 := cell_later hb4 u1; replace u2 := cell_later hb4 u2; replace u3 := cell_later hb4 u3; replace u4 := cell_later hb4 u4; replace rf : ∀ i, w4.frozen? ⟨w.heap.size, i, none⟩ = false := fun i => Lib.frozen_of_heap HR.out i; clear hb4 hb uf) | fail)
                    obtain ⟨c0, c1, c2, c3, c4, c5, c6, c7⟩ := five_out hbE (Nat.le_refl _) HR.out (.int .i64 x.k) (.string x.s) (.slice ac lc cc) (.string x.q) (.slice av lr cv)
                    clear r0 r1 r2 r3 r4 rf HR
                    unfold five at c0 c1 c2 c3 c4 c5 c6 c7
                    generalize (World.setCell (World.setCell (World.setCell (World.setCell (World.setCell w4 ⟨w.heap.size, 0, none⟩ (.int .i64 x.k)) ⟨w.heap.size, 1, none⟩ (.string x.s)) ⟨w.heap.size, 2, none⟩ (.slice ac lc cc)) ⟨w.heap.size, 3, none⟩ (.string x.q)) ⟨w.heap.size, 4, none⟩ (.slice av lr cv)) = wF at c0 c1 c2 c3 c4 c5 c6 c7 ⊢
                    have hIsF : StpOwn wF w.heap.size (.slice ac lc cc) (.slice av lr cv) x g F := ⟨Hg4.out.1.keep (Nat.le_of_eq c7.symm) (fun b hb => c6 b (Hg.out.2.1 b hb)), Hg4.out.2.1.keep (Nat.le_of_eq c7.symm) (fun b hb => c6 b (Hg.out.2.2.2.1 b hb)), Hg4.out.2.2.1.keep (fun b hb => c6 b (Hg.out.2.1 b hb)), Hg4.out.2.2.2.1.keep (fun b hb => c6 b (Hg.out.2.2.2.1 b hb)), Hg4.out.2.2.2.2⟩
                    refine bodyPost_ret (results_ct rfl _ _ _ _ ⟨w.heap.size, 0, none⟩ rfl (load5 c0 c1 c2 c3 c4)) rfl ⟨⟨.slice ac lc cc, .slice av lr cv, g, F, (by rw [HZ.out]; (try rw [hgo]); rfl), (by rw [HZ.out]; exact hIsF)⟩, c5⟩
end Go.Proofs.YtbmoimfimeiglaaGreat
namespace Go.Proofs.YtbmoimfimeiglaaGreat
open Go.RowKit Go.Deep
set_option linter.unusedVariables false
theorem res5_ct {fn : Func} {a u : Tmp} {t : TypeId} (h : fn.results = #[.cell a t, .tmp u]) (tmps : Array Value) (P : Program) (w : World) (v : Value) (p : Addr) (hp : tmps.getD a undef = .pointer (some p)) (hl : (loadVar t p).run P w = .ok v w) : (results fn tmps).run P w = .ok (.tuple #[v, tmps.getD u undef]) w := by
  have hp2 : tmps[a]?.getD undef = .pointer (some p) := by rw [← hp]; simp
  simp [results, h, hp2, hl, asAddr]
theorem lod5 {w : World} {R : Nat} {a0 a1 a2 a3 a4 : Value} (h : w.heap[R]? = some (.cells #[a0, a1, a2, a3, a4] 27 (0, 0))) : (loadVar 27 ⟨R, 0, none⟩).run Tryz.prog w = .ok (.agg #[a0, a1, a2, a3, a4]) w := by
  have c0 : w.cell? ⟨R, 0, none⟩ = some a0 := by rw [Lib.cell_of_heap h]; rfl
  have c1 : w.cell? ⟨R, 1, none⟩ = some a1 := by rw [Lib.cell_of_heap h]; rfl
  have c2 : w.cell? ⟨R, 2, none⟩ = some a2 := by rw [Lib.cell_of_heap h]; rfl
  have c3 : w.cell? ⟨R, 3, none⟩ = some a3 := by rw [Lib.cell_of_heap h]; rfl
  have c4 : w.cell? ⟨R, 4, none⟩ = some a4 := by rw [Lib.cell_of_heap h]; rfl
  simp [go_sem, c0, c1, c2, c3, c4]
theorem st5 {w : World} {R : Nat} {a0 a1 a2 a3 a4 : Value} {t : TypeId} (h : w.heap[R]? = some (.cells #[a0, a1, a2, a3, a4] t (0, 0))) (b0 b1 b2 b3 b4 : Value) :
    (((((w.setCell ⟨R, 0, none⟩ b0).setCell ⟨R, 1, none⟩ b1).setCell ⟨R, 2, none⟩ b2).setCell ⟨R, 3, none⟩ b3).setCell ⟨R, 4, none⟩ b4).heap[R]? = some (.cells #[b0, b1, b2, b3, b4] t (0, 0)) ∧ (∀ b, b ≠ R → (((((w.setCell ⟨R, 0, none⟩ b0).setCell ⟨R, 1, none⟩ b1).setCell ⟨R, 2, none⟩ b2).setCell ⟨R, 3, none⟩ b3).setCell ⟨R, 4, none⟩ b4).heap[b]? = w.heap[b]?) ∧ (((((w.setCell ⟨R, 0, none⟩ b0).setCell ⟨R, 1, none⟩ b1).setCell ⟨R, 2, none⟩ b2).setCell ⟨R, 3, none⟩ b3).setCell ⟨R, 4, none⟩ b4).heap.size = w.heap.size ∧ Below R w (((((w.setCell ⟨R, 0, none⟩ b0).setCell ⟨R, 1, none⟩ b1).setCell ⟨R, 2, none⟩ b2).setCell ⟨R, 3, none⟩ b3).setCell ⟨R, 4, none⟩ b4) := by
  refine ⟨set_blk (i := 4) (v := b4) (set_blk (i := 3) (v := b3) (set_blk (i := 2) (v := b2) (set_blk (i := 1) (v := b1) (set_blk (i := 0) (v := b0) h)))), fun b hne => ?_, by simp, ?_⟩
  · iterate 5 rw [Below.heap_setCell _ _ _ _ (by simpa using hne)]
  · exact (((((Below.refl R w).setCell (p := ⟨R, 0, none⟩) (Nat.le_refl _) _).setCell (p := ⟨R, 1, none⟩) (Nat.le_refl _) _).setCell (p := ⟨R, 2, none⟩) (Nat.le_refl _) _).setCell (p := ⟨R, 3, none⟩) (Nat.le_refl _) _).setCell (p := ⟨R, 4, none⟩) (Nat.le_refl _) _
def EnOut (s : ByteArray) (a C E : Nat) (w : World) (r : Ending) (w' : World) : Prop :=
  ∃ (x : T5) (ac ar : Option Addr) (nc cc nr cr : Nat), r = .returned (.tuple #[.agg #[.int .i64 x.k, .string x.s, .slice ac nc cc, .string x.q, .slice ar nr cr], .bool (okI s a)]) ∧ Kc C E w w' ∧
    (okI s a = true → x = sX s (lE s a) (lQ s a) ∧ ∃ M g F E' cap', StpOwn w' M (.slice ac nc cc) (.slice ar nr cr) x g F ∧ w.heap.size < M ∧ Ct w' C E' cap' s (lE s a, false) [(s.size : Int)] ∧ (E' = E ∨ w.heap.size ≤ E') ∧ E' < M)
theorem StpOwn.weakF {w : World} {N : Nat} {uc ur : Value} {x : T5} {g F : List Nat} (h : StpOwn w N uc ur x g F) : True ∧ ∀ b ∈ g ++ F, N ≤ b := ⟨trivial, fun b hb => by
  rcases List.mem_append.1 hb with hb | hb
  · exact h.2.2.1.2.1 b hb
  · exact h.2.2.2.1.2.1 b hb⟩
theorem Stepped.ownM {w w' : World} {C E : Nat} {s : ByteArray} {e : Nat} {q : Nat × Bool} {xs : List Int} {uc ur : Value} (h : Stepped w w' C E s e q xs uc ur) : ∃ M g F E' cap', StpOwn w' M uc ur (sX s e q) g F ∧ w.heap.size ≤ M ∧ Ct w' C E' cap' s ((sE s e q).2.1, sT s e q) xs ∧ (E' = E ∨ w.heap.size ≤ E') ∧ E' < M ∧ Kc C E w w' := by
  obtain ⟨us, G, M, h1, h2, h3, h4, ⟨E', cap', h5, h6, h7, h8⟩, h9⟩ := h
  obtain ⟨g, hg, hOg, hub⟩ := strs_own h1
  obtain ⟨F, hF, hOF⟩ := h2.relsF
  by_cases hE : w.heap.size ≤ E' + 1
  · exact ⟨E' + 1, g, F, E', cap', ⟨hg, hF, ⟨hOg.1, fun b hb => h8 b (hub b hb), hOg.2.2⟩, ⟨hOF.1, fun b hb => Nat.le_trans h7 (hOF.2.1 b hb), hOF.2.2⟩, fun b hb hb2 => by have := h4 b (hub b hb); have := hOF.2.1 b hb2; omega⟩, hE, h5, h6, by omega, h9⟩
  · exact ⟨w.heap.size, g, F, E', cap', ⟨hg, hF, hOg, ⟨hOF.1, fun b hb => Nat.le_trans h3 (hOF.2.1 b hb), hOF.2.2⟩, fun b hb hb2 => by have := h4 b (hub b hb); have := hOF.2.1 b hb2; omega⟩, Nat.le_refl _, h5, h6, by omega, h9⟩
set_option maxHeartbeats 4000000 in
set_option maxRecDepth 100000 in
theorem entry_any (C E cap : Nat) (s : ByteArray) (a : Nat) (w : World) (h : Ct w C E cap s (a, false) [(s.size : Int)]) (ha : a ≤ s.size) (hs : s.size ≤ 1048576) :
    Calls Tryz.prog 26 #[.pointer (some ⟨C, 0, none⟩)] w fun r w' => EnOut s a C E w r w' := by
  have hCl := h.ltC
  have hEl := h.ltE
  have hA := lA_bd ha
  have hB := lB_bd ha
  have hBat := lB_at ha
  obtain ⟨hQ1, hQ2, hQ3⟩ := lE_at ha
  have hA1 : (lA s a).2.1 ≤ s.size := nm_at (s := s) (k := 4) (q := (a, false)) ha
  have hAn : Hid ((lA s a).1 = ((lA s a).1.toNat : Int)) := by show _ = _; omega
  have hsb := sumB_bd (lT s a)
  have hTz : (lT s a).size ≤ 1048576 := by unfold lT; rw [ByteArray.size_extract]; omega
  go_enter Tryz.func26, Tryz.ntmps26
  go_wp2_with (first | (go_at_call 58; with_reducible refine Calls.mono (cnum_any C E cap s (a, false) [] s.size 4 _ (h.below (bex)) ha (Nat.le_refl _) (by omega) hs (by simp)) ?_) | fail)
  rintro r w1 ⟨rfl, E1, cap1, hC1, hK1, _, hE1, hr1⟩
  have hz1 := hK1.size
  simp only [World.size_alloc] at hz1 hE1
  simp only [List.nil_append, List.length_cons, List.length_nil, Nat.zero_add] at hr1
  have hKw1 : Kc C E w w1 := (Kc.of_below (bex)).trans hK1 (.inl rfl)
  have hR1 : w1.heap[w.heap.size]? = some (.cells #[.int .i64 0, .string ⟨#[]⟩, .slice none 0 0, .string ⟨#[]⟩, .slice none 0 0] 27 (0, 0)) := (hK1.block _ (by simp) (by omega) (by omega)).trans (heap_alloc_new w _)
  have hE1w : E1 = E ∨ w.heap.size + 1 ≤ E1 := hE1
  have hE1l := hC1.ltE
  rw [show (nm s s.size 4 (a, false)).1 = (lA s a).1 from rfl]
  replace hC1 : Ct w1 C E1 cap1 s (lA s a).2 ([] ++ [(s.size : Int)]) := hC1
  clear hK1 h
  have T2 : ∀ wz : World, Ct wz C E1 cap1 s (lA s a).2 ([] ++ [(s.size : Int)]) → Calls Tryz.prog 58 #[.pointer (some ⟨C, 0, none⟩), .int .i64 (4 : Nat)] wz fun r w' => r = .returned (.int .i64 (lB s a).1) ∧ Ct w' C E1 cap1 s (lB s a).2 ([] ++ [(s.size : Int)]) ∧ Kc C E1 wz w' := fun wz hz => by
    refine Calls.mono (cnum_any C E1 cap1 s (lA s a).2 [] s.size 4 wz hz hA1 (Nat.le_refl _) (by omega) hs (by simp)) ?_
    rintro r w' ⟨rfl, hT⟩
    exact ⟨rfl, hT.room (by simpa using hr1)⟩
  have T3 : ∀ wz : World, Ct wz C E1 cap1 s (lB s a).2 ([] ++ [(s.size : Int)]) → Calls Tryz.prog 59 #[.pointer (some ⟨C, 0, none⟩), .int .i64 (lA s a).1] wz fun r w' => r = .returned (.tuple #[]) ∧ Ct w' C E1 cap1 s (lQ s a) ([(s.size : Int)] ++ [(lE s a : Int)]) ∧ Kc C E1 wz w' := fun wz hz => by
    rw [hAn.out]
    refine Calls.mono (enter_any C E1 cap1 s (lB s a).2 [] s.size (lA s a).1.toNat wz hz hBat (Nat.le_refl _) (by omega) hs (by simp)) ?_
    rintro r w' ⟨rfl, E', cap', h1, h2, h3, _, _⟩
    obtain ⟨rfl, rfl⟩ := h3 (by simpa using hr1)
    exact ⟨rfl, h1, h2⟩
  have T4 : ∀ wz : World, Ct wz C E1 cap1 s (lQ s a) ([(s.size : Int)] ++ [(lE s a : Int)]) → Calls Tryz.prog 60 #[.pointer (some ⟨C, 0, none⟩)] wz fun r w' => r = .returned (.string (lT s a)) ∧ ∃ m, w' = wz.drewN m := fun wz hz => left_any C E1 cap1 s (lQ s a) [(s.size : Int)] (lE s a) wz hz hQ2 hQ3
  have T5' : ∀ wz : World, Calls Tryz.prog 17 #[.string (lT s a)] wz fun e w' => e = .returned (.int .u32 (sumB (lT s a))) ∧ w' = wz := fun wz => implSum_any (lT s a) wz (by unfold maxLen; omega)
  have T6 : ∀ wz : World, Ct wz C E1 cap1 s (lQ s a) ([(s.size : Int)] ++ [(lE s a : Int)]) → Calls Tryz.prog 35 #[.pointer (some ⟨C, 0, none⟩)] wz fun r w' => ∃ uc ur, r = .returned (.tuple #[.agg #[.int .i64 (sX s (lE s a) (lQ s a)).k, .string (sX s (lE s a) (lQ s a)).s, uc, .string (sX s (lE s a) (lQ s a)).q, ur], .bool (sO s (lE s a) (lQ s a))]) ∧ Stepped wz w' C E1 s (lE s a) (lQ s a) [(s.size : Int)] uc ur := fun wz hz => step_any C E1 cap1 s (lQ s a) [(s.size : Int)] (lE s a) wz hz hQ2 hQ3 hs (by simp)
  have hRC : w.heap.size ≠ C := by omega
  have hRE : w.heap.size ≠ E1 := by omega
  have HI : Hid (okI s a = (((sumB (lT s a) : Int) == (lB s a).1) && sO s (lE s a) (lQ s a))) := rfl
  generalize hSB : sumB (lT s a) = SB at *
  generalize hNB : (lB s a).1 = NB at *
  have hws : IntKind.i64.wrap SB = SB := by rw [IntKind.wrap_i64]; omega
  have hwt : wrap64 SB = SB := by unfold wrap64; omega
  go_wp2_with (first | (go_at_call 58; with_reducible refine Calls.mono (T2 _ hC1) ?_) | fail)
  rintro r w2 ⟨rfl, hC2, hK2⟩
  have hz2 := hK2.size
  have hR2 := (hK2.block _ (by omega) hRC hRE).trans hR1
  have hKw2 : Kc C E w w2 := hKw1.trans hK2 (by omega)
  clear hC1 hK2 T2 hR1 hKw1
  go_wp2_with (first | (go_at_call 59; with_reducible refine Calls.mono (T3 _ hC2) ?_) | fail)
  rintro r w3 ⟨rfl, hC3, hK3⟩
  have hz3 := hK3.size
  have hR3 := (hK3.block _ (by omega) hRC hRE).trans hR2
  have hKw3 : Kc C E w w3 := hKw2.trans hK3 (by omega)
  clear hC2 hK3 T3 hR2 hKw2
  go_wp2_with (first | (go_at_call 60; with_reducible refine Calls.mono (T4 _ hC3) ?_) | fail)
  rintro r w4 ⟨rfl, m4, rfl⟩
  have hC4 := hC3.drewN m4
  have hKw4 := hKw3.drewN m4
  have hz4 : (w3.drewN m4).heap.size = w3.heap.size := rfl
  have hR4 : (w3.drewN m4).heap[w.heap.size]? = _ := hR3
  generalize w3.drewN m4 = w4 at *
  clear hC3 hKw3 hR3 T4
  have hRl := heap_lt hR4
  have b0 : w4.cell? ⟨w.heap.size, 0, none⟩ = some (.int .i64 0) := by rw [Lib.cell_of_heap hR4]; rfl
  have b1 : w4.cell? ⟨w.heap.size, 1, none⟩ = some (.string ⟨#[]⟩) := by rw [Lib.cell_of_heap hR4]; rfl
  have b2 : w4.cell? ⟨w.heap.size, 2, none⟩ = some (.slice none 0 0) := by rw [Lib.cell_of_heap hR4]; rfl
  have b3 : w4.cell? ⟨w.heap.size, 3, none⟩ = some (.string ⟨#[]⟩) := by rw [Lib.cell_of_heap hR4]; rfl
  have b4 : w4.cell? ⟨w.heap.size, 4, none⟩ = some (.slice none 0 0) := by rw [Lib.cell_of_heap hR4]; rfl
  have bf : ∀ i, w4.frozen? ⟨w.heap.size, i, none⟩ = false := fun i => Lib.frozen_of_heap hR4 i
  cases hne : (SB == NB)
  · have hne2 : (SB != NB) = true := by simp only [bne, hne]; rfl
    have HZ : Hid (okI s a = false) := by rw [hne] at HI; exact HI
    obtain ⟨st1, st2, st3, st4⟩ := st5 hR4 (.int .i64 0) (.string ⟨#[]⟩) (.slice none 0 0) (.string ⟨#[]⟩) (.slice none 0 0)
    have HK : Hid (Kc C E w (((((w4.setCell ⟨w.heap.size, 0, none⟩ (.int .i64 0)).setCell ⟨w.heap.size, 1, none⟩ (.string ⟨#[]⟩)).setCell ⟨w.heap.size, 2, none⟩ (.slice none 0 0)).setCell ⟨w.heap.size, 3, none⟩ (.string ⟨#[]⟩)).setCell ⟨w.heap.size, 4, none⟩ (.slice none 0 0))) := ⟨hKw4.os, hKw4.tape, hKw4.output, by rw [st3]; exact hKw4.size, fun b hb h1 h2 => (st2 b (by omega)).trans (hKw4.block b hb h1 h2)⟩
    have HS : Hid _ := st1
    clear st1 st2 st3 st4 hKw4 hC4 T6
    go_wp2_with (first | (go_at_call 17; with_reducible refine Calls.mono (T5' _) ?_; rintro r w5 ⟨rfl, rfl⟩) | fail)
    refine bodyPost_ret (res5_ct rfl _ _ _ _ ⟨w.heap.size, 0, none⟩ rfl (lod5 HS.out)) rfl ⟨zT, none, none, 0, 0, 0, 0, (by rw [HZ.out]; rfl), HK.out, fun h => by rw [HZ.out] at h; cases h⟩
  · have hne2 : (SB != NB) = false := by simp only [bne, hne]; rfl
    have HZ : Hid (okI s a = sO s (lE s a) (lQ s a)) := by rw [hne] at HI; simpa using HI
    go_wp2_with (first | (go_at_call 17; with_reducible refine Calls.mono (T5' _) ?_; rintro r w5 ⟨rfl, rfl⟩) | (go_at_call 35; with_reducible refine Calls.mono (T6 _ hC4) ?_) | fail)
    rintro r w6 ⟨uc, ur, rfl, hSt⟩
    obtain ⟨M, g, F, E', cap', hO, hM, hC6, hE6, hEM, hK6⟩ := hSt.ownM
    have hz6 := hK6.size
    have hR6 := (hK6.block _ hRl hRC hRE).trans hR4
    have hKw6 : Kc C E w w6 := hKw4.trans hK6 (by omega)
    obtain ⟨ac, cc, rfl, _, _⟩ := hO.1.shape
    have hs2 : ∃ a2 c2, ur = .slice a2 (sX s (lE s a) (lQ s a)).rs.length c2 := by
      obtain ⟨a2, c2, _, h, _⟩ := hO.2.1
      exact ⟨a2, c2, h⟩
    obtain ⟨ar, cr, rfl⟩ := hs2
    have HX : Hid (sO s (lE s a) (lQ s a) = true → ((sE s (lE s a) (lQ s a)).2.1, sT s (lE s a) (lQ s a)) = (lE s a, false)) := fun h => by
      obtain ⟨h1, h2⟩ := sO_at h
      rw [h1, h2]
    clear b0 b1 b2 b3 b4 bf
    have hRl6 := heap_lt hR6
    have b0 : w6.cell? ⟨w.heap.size, 0, none⟩ = some (.int .i64 0) := by rw [Lib.cell_of_heap hR6]; rfl
    have b1 : w6.cell? ⟨w.heap.size, 1, none⟩ = some (.string ⟨#[]⟩) := by rw [Lib.cell_of_heap hR6]; rfl
    have b2 : w6.cell? ⟨w.heap.size, 2, none⟩ = some (.slice none 0 0) := by rw [Lib.cell_of_heap hR6]; rfl
    have b3 : w6.cell? ⟨w.heap.size, 3, none⟩ = some (.string ⟨#[]⟩) := by rw [Lib.cell_of_heap hR6]; rfl
    have b4 : w6.cell? ⟨w.heap.size, 4, none⟩ = some (.slice none 0 0) := by rw [Lib.cell_of_heap hR6]; rfl
    have bf : ∀ i, w6.frozen? ⟨w.heap.size, i, none⟩ = false := fun i => Lib.frozen_of_heap hR6 i
    clear hSt T6 T5' hC4 hKw4 hK6 hR4
    generalize hXe : sX s (lE s a) (lQ s a) = x at *
    have HXe : Hid (x = sX s (lE s a) (lQ s a)) := hXe.symm
    clear hXe
    generalize x.cs.length = n1 at *
    generalize x.rs.length = n2 at *
    obtain ⟨st1, st2, st3, st4⟩ := st5 hR6 (.int .i64 x.k) (.string x.s) (.slice ac n1 cc) (.string x.q) (.slice ar n2 cr)
    have HP : Hid (EnOut s a C E w (.returned (.tuple #[.agg #[.int .i64 x.k, .string x.s, .slice ac n1 cc, .string x.q, .slice ar n2 cr], .bool (sO s (lE s a) (lQ s a))])) (((((w6.setCell ⟨w.heap.size, 0, none⟩ (.int .i64 x.k)).setCell ⟨w.heap.size, 1, none⟩ (.string x.s)).setCell ⟨w.heap.size, 2, none⟩ (.slice ac n1 cc)).setCell ⟨w.heap.size, 3, none⟩ (.string x.q)).setCell ⟨w.heap.size, 4, none⟩ (.slice ar n2 cr))) := by
      refine ⟨x, ac, ar, n1, cc, n2, cr, by rw [HZ.out], ⟨hKw6.os, hKw6.tape, hKw6.output, by rw [st3]; exact hKw6.size, fun b hb h1 h2 => (st2 b (by omega)).trans (hKw6.block b hb h1 h2)⟩, fun hk => ?_⟩
      rw [HZ.out] at hk
      have e := HX.out hk
      rw [e] at hC6
      exact ⟨HXe.out, M, g, F, E', cap', hO.keep (by rw [st3]; exact Nat.le_refl _) (fun b h1 h2 => st2 b (by omega)), by omega, hC6.keep (st2 C (by omega)) (st2 E' (by omega)), by omega, hEM⟩
    have HS : Hid _ := st1
    clear st1 st2 st3 st4 hKw6 hC6 hO hR6
    generalize sO s (lE s a) (lQ s a) = ok at *
    go_wp2
    refine bodyPost_ret (res5_ct (a := 2) (u := 3) rfl _ _ _ _ ⟨w.heap.size, 0, none⟩ rfl (lod5 HS.out)) rfl HP.out
end Go.Proofs.YtbmoimfimeiglaaGreat
