/- Own texts, joined: contracts that the law's proof goes by. -/
import Derived.Test.YtbmoimfimeiglaaGreatGLFnLog4
import Derived.Handy
import Derived.BigQuiet
import Derived.Deep.RegionHeld3
namespace Go.Proofs.YtbmoimfimeiglaaGreat
open Go.RowKit Go.Deep
set_option linter.unusedVariables false
def BytesB (w : World) (B : Nat) (v : Value) (l : Nat) : Prop :=
  ∃ (a : Option Addr) (c : Nat), v = .slice a l c ∧ l ≤ c ∧ l ≤ 1048576 ∧ ∀ j, j < l → ∃ b o, a = some ⟨b, o, none⟩ ∧ b < B ∧ ∃ x : Int, 0 ≤ x ∧ x ≤ 255 ∧ w.cell? ⟨b, o + j, none⟩ = some (.int .u8 x)
structure Cur (w : World) (B : Nat) (v : Value) (l : Nat) : Prop where
  lt : B < w.heap.size
  fr : ∀ o, w.frozen? ⟨B, o, none⟩ = false
  c0 : w.cell? ⟨B, 0, none⟩ = some v
  at1 : ∃ i : Int, w.cell? ⟨B, 1, none⟩ = some (.int .i64 i) ∧ 0 ≤ i ∧ i ≤ l
  at2 : ∃ h : Int, w.cell? ⟨B, 2, none⟩ = some (.int .i64 h)
  by_ : BytesB w B v l
theorem Cur.keep {w w' : World} {B : Nat} {v : Value} {l : Nat} (h : Cur w B v l) (hs : w.heap.size ≤ w'.heap.size) (hk : ∀ b, b ≤ B → w'.heap[b]? = w.heap[b]?) : Cur w' B v l := by
  obtain ⟨i, hi, h0, h1⟩ := h.at1
  obtain ⟨q, hq⟩ := h.at2
  have hB := hk B (Nat.le_refl _)
  refine ⟨Nat.lt_of_lt_of_le h.lt hs, fun o => (frozen_blk hB).trans (h.fr o), (cell_blk hB).trans h.c0, ⟨i, (cell_blk hB).trans hi, h0, h1⟩, ⟨q, (cell_blk hB).trans hq⟩, ?_⟩
  obtain ⟨a, c, hv, hl, hm, hb⟩ := h.by_
  refine ⟨a, c, hv, hl, hm, fun j hj => ?_⟩
  obtain ⟨b, o, ha, hlt, x, x0, x1, hx⟩ := hb j hj
  exact ⟨b, o, ha, hlt, x, x0, x1, (cell_blk (hk b (by omega))).trans hx⟩
theorem Cur.below {w w' : World} {B : Nat} {v : Value} {l : Nat} (h : Cur w B v l) (hb : Below w.heap.size w w') : Cur w' B v l := h.keep hb.size fun b hb' => hb.block b (Nat.lt_of_le_of_lt hb' h.lt)
theorem BytesB.set {w : World} {B : Nat} {v : Value} {l : Nat} (h : BytesB w B v l) (k : Nat) (u : Value) : BytesB (w.setCell ⟨B, k, none⟩ u) B v l := by
  obtain ⟨a, c, hv, hl, hm, hb⟩ := h
  refine ⟨a, c, hv, hl, hm, fun j hj => ?_⟩
  obtain ⟨b, o, ha, hlt, x, x0, x1, hx⟩ := hb j hj
  exact ⟨b, o, ha, hlt, x, x0, x1, (World.cell?_setCell_other _ _ _ _ (by intro e; have := congrArg Addr.block e; simp at this; omega)).trans hx⟩
theorem Cur.set1 {w : World} {B : Nat} {v : Value} {l : Nat} (h : Cur w B v l) {i : Int} (h0 : 0 ≤ i) (h1 : i ≤ l) : Cur (w.setCell ⟨B, 1, none⟩ (.int .i64 i)) B v l := by
  obtain ⟨i', hi, _, _⟩ := h.at1
  obtain ⟨q, hq⟩ := h.at2
  exact ⟨by simpa using h.lt, fun o => by rw [World.frozen?_setCell]; exact h.fr o, (World.cell?_setCell_other _ _ _ _ (by simp)).trans h.c0, ⟨i, World.cell?_setCell_same _ _ _ hi, h0, h1⟩, ⟨q, (World.cell?_setCell_other _ _ _ _ (by simp)).trans hq⟩, h.by_.set _ _⟩
theorem Cur.set2 {w : World} {B : Nat} {v : Value} {l : Nat} (h : Cur w B v l) (g : Int) : Cur (w.setCell ⟨B, 2, none⟩ (.int .i64 g)) B v l := by
  obtain ⟨i, hi, h0, h1⟩ := h.at1
  obtain ⟨q, hq⟩ := h.at2
  exact ⟨by simpa using h.lt, fun o => by rw [World.frozen?_setCell]; exact h.fr o, (World.cell?_setCell_other _ _ _ _ (by simp)).trans h.c0, ⟨i, (World.cell?_setCell_other _ _ _ _ (by simp)).trans hi, h0, h1⟩, ⟨g, World.cell?_setCell_same _ _ _ hq⟩, h.by_.set _ _⟩
theorem Cur.drew {w : World} {B : Nat} {v : Value} {l : Nat} (h : Cur w B v l) (n : Nat) : Cur (w.drewN n) B v l := h.below ⟨rfl, rfl, rfl, Nat.le_refl _, fun _ _ => rfl⟩
theorem Chg.drew {w w' : World} {F : List Nat} (h : Chg F w w') (n : Nat) : Chg F w (w'.drewN n) := h.trans ⟨rfl, rfl, rfl, Nat.le_refl _, fun _ _ _ => rfl, id⟩
structure Drew (B : Nat) (v : Value) (l : Nat) (w w' : World) : Prop where
  lt : B < w.heap.size
  cur : Cur w' B v l
  chg : Chg [B] w w'
theorem Cur.start {w : World} {B : Nat} {v : Value} {l : Nat} (h : Cur w B v l) : Drew B v l w w := ⟨h.lt, h, Chg.refl _ _⟩
theorem Drew.trans {w w1 w2 : World} {B : Nat} {v : Value} {l : Nat} (h : Drew B v l w w1) (k : Drew B v l w1 w2) : Drew B v l w w2 := ⟨h.lt, k.cur, h.chg.trans k.chg⟩
theorem Drew.below {w w1 w2 : World} {B : Nat} {v : Value} {l : Nat} (h : Drew B v l w w1) (k : Below w1.heap.size w1 w2) : Drew B v l w w2 :=
  ⟨h.lt, h.cur.below k, h.chg.trans (Chg.of_below k (fun b hb => by rcases List.mem_singleton.1 hb with rfl; exact h.cur.lt))⟩
theorem Drew.alloc {w w1 : World} {B : Nat} {v : Value} {l : Nat} (h : Drew B v l w w1) (o : Obj) : Drew B v l w (w1.alloc o) := h.below ((Below.refl _ _).alloc (Nat.le_refl _) _)
theorem Drew.drew {w w1 : World} {B : Nat} {v : Value} {l : Nat} (h : Drew B v l w w1) (n : Nat) : Drew B v l w (w1.drewN n) := h.below ⟨rfl, rfl, rfl, Nat.le_refl _, fun _ _ => rfl⟩
theorem Drew.set {w w1 : World} {B : Nat} {v : Value} {l : Nat} (h : Drew B v l w w1) {p : Addr} (hp : w.heap.size ≤ p.block) (u : Value) : Drew B v l w (w1.setCell p u) := by
  have hlt := h.lt
  refine ⟨h.lt, h.cur.keep (by simp) fun b hb => Below.heap_setCell _ _ _ _ (by omega), ?_⟩
  exact ⟨h.chg.os, h.chg.tape, h.chg.output, by simpa using h.chg.size, fun k hk hF => (Below.heap_setCell _ _ _ _ (by omega)).trans (h.chg.block k hk hF), fun f b hb o => by rw [World.frozen?_setCell]; exact h.chg.free f b hb o⟩
theorem Drew.old {w w1 : World} {B : Nat} {v : Value} {l : Nat} (h : Drew B v l w w1) {N : Nat} (hN : N < w.heap.size) (hB : N ≠ B) : w1.heap[N]? = w.heap[N]? := h.chg.block N hN (by simpa using hB)
structure VarV (w : World) (N : Nat) (k n : Int) (s : ByteArray) : Prop where
  lt : N < w.heap.size
  fr : ∀ o, w.frozen? ⟨N, o, none⟩ = false
  c0 : w.cell? ⟨N, 0, none⟩ = some (.int .i64 k)
  c1 : w.cell? ⟨N, 1, none⟩ = some (.int .i64 n)
  c2 : w.cell? ⟨N, 2, none⟩ = some (.string s)
theorem VarV.keep {w w' : World} {N : Nat} {k n : Int} {s : ByteArray} (h : VarV w N k n s) (hs : w.heap.size ≤ w'.heap.size) (hk : w'.heap[N]? = w.heap[N]?) : VarV w' N k n s :=
  ⟨Nat.lt_of_lt_of_le h.lt hs, fun o => (frozen_blk hk).trans (h.fr o), (cell_blk hk).trans h.c0, (cell_blk hk).trans h.c1, (cell_blk hk).trans h.c2⟩
theorem VarV.drew {w w' : World} {N B : Nat} {v : Value} {l : Nat} {k n : Int} {s : ByteArray} (h : VarV w N k n s) (hd : Drew B v l w w') (hN : N ≠ B) : VarV w' N k n s := h.keep hd.chg.size (hd.old h.lt hN)
theorem VarV.below {w w' : World} {N : Nat} {k n : Int} {s : ByteArray} (h : VarV w N k n s) (hd : Below w.heap.size w w') : VarV w' N k n s := h.keep hd.size (hd.block N h.lt)
theorem VarV.new (w : World) (k n : Int) (s : ByteArray) (t : TypeId) : VarV (w.alloc (.cells #[.int .i64 k, .int .i64 n, .string s] t)) w.heap.size k n s :=
  ⟨by simp, fun o => by simp, by simp, by simp, by simp⟩
theorem and255 (y : Int) : 0 ≤ bits .and .i64 y 255 ∧ bits .and .i64 y 255 ≤ 255 := by
  have h : (BitVec.ofInt 64 y &&& BitVec.ofInt 64 255).toNat ≤ 255 := by
    rw [BitVec.toNat_and, show (BitVec.ofInt 64 255).toNat = 255 from rfl]; exact Nat.and_le_right
  show 0 ≤ IntKind.i64.wrap ((BitVec.ofInt 64 y &&& BitVec.ofInt 64 255).toNat : Int) ∧ IntKind.i64.wrap ((BitVec.ofInt 64 y &&& BitVec.ofInt 64 255).toNat : Int) ≤ 255
  rw [IntKind.wrap_i64]
  omega
set_option maxHeartbeats 2000000 in
set_option maxRecDepth 100000 in
theorem l01Byte_any (B : Nat) (v : Value) (l : Nat) (w : World) (h : Cur w B v l) :
    Calls Tryz.prog 81 #[.pointer (some ⟨B, 0, none⟩)] w fun e w' => (∃ x : Int, e = .returned (.int .i64 x) ∧ 0 ≤ x ∧ x ≤ 255) ∧ Drew B v l w w' := by
  obtain ⟨i, hi, hi0, hi1⟩ := h.at1
  obtain ⟨q, hq⟩ := h.at2
  have hfr := h.fr
  have hc0 := h.c0
  have hlt := h.lt
  obtain ⟨a, c, rfl, hl, hm, hb⟩ := h.by_
  have hlI : (l : Int) ≤ 1048576 := by omega
  by_cases hil : i < (l : Int)
  · obtain ⟨n, rfl⟩ : ∃ n : Nat, i = n := ⟨i.toNat, by omega⟩
    obtain ⟨b, o, rfl, hbl, y, y0, y1, hy⟩ := hb n (by omega)
    have hne : b ≠ B := by omega
    clear hb
    have hnl : n < l := by omega
    go_enter Tryz.func81, Tryz.ntmps81
    go_wp2_with fail
    generalize wrap64 (wrap64 (q * 6364136223846793005) + 1442695040888963407) = g
    go_quiet (fail)
    go_wp2_with fail
    have hX := and255 (bits BinOp.xor IntKind.i64 (g / 8589934592) (g / 35184372088832))
    generalize bits BinOp.and IntKind.i64 (bits BinOp.xor IntKind.i64 (g / 8589934592) (g / 35184372088832)) 255 = x at hX ⊢
    go_quiet (fail)
    go_wp2_with fail
    go_quiet (fail)
    go_wp2_with fail
    go_returns
    exact ⟨⟨_, rfl, and255 _⟩, hlt, ((h.set2 g).drew _).set1 (by omega) (by omega), (((Chg.refl [B] w).setCell (by simp) _).drew _).setCell (by simp) _⟩
  · clear hb
    go_enter Tryz.func81, Tryz.ntmps81
    go_wp2_with fail
    generalize wrap64 (wrap64 (q * 6364136223846793005) + 1442695040888963407) = g
    go_quiet (fail)
    go_wp2_with fail
    have hX := and255 (bits BinOp.xor IntKind.i64 (g / 8589934592) (g / 35184372088832))
    generalize bits BinOp.and IntKind.i64 (bits BinOp.xor IntKind.i64 (g / 8589934592) (g / 35184372088832)) 255 = x at hX ⊢
    go_quiet (fail)
    go_wp2_with fail
    go_returns
    exact ⟨⟨_, rfl, hX⟩, hlt, ((h.set2 g).drew _).drew _, (((Chg.refl [B] w).setCell (by simp) _).drew _).drew _⟩
set_option maxHeartbeats 1000000 in
set_option maxRecDepth 100000 in
theorem l01Below_any (n : Int) (B : Nat) (v : Value) (l : Nat) (w : World) (h : Cur w B v l) (h1 : 1 ≤ n) (h2 : n ≤ 256) :
    Calls Tryz.prog 52 #[.pointer (some ⟨B, 0, none⟩), .int .i64 n] w fun e w' => (∃ x : Int, e = .returned (.int .i64 x) ∧ 0 ≤ x ∧ x < n) ∧ Drew B v l w w' := by
  go_enter Tryz.func52, Tryz.ntmps52
  go_wp2_with fail
  refine (l01Byte_any B v l w h).mono ?_
  rintro e w1 ⟨⟨x, rfl, x0, x1⟩, hd1⟩
  go_wp2_with fail
  go_returns
  exact ⟨⟨_, rfl, Int.emod_nonneg _ (by omega), Int.emod_lt_of_pos _ (by omega)⟩, hd1⟩
end Go.Proofs.YtbmoimfimeiglaaGreat
namespace Go.Proofs.YtbmoimfimeiglaaGreat
open Go.RowKit Go.Deep
set_option linter.unusedVariables false
section
variable {H : Type} {enc : TypeId × Value → H} {P : Program} {w : World} {spare : Nat → Bool} {held : Bool}
theorem wf_u8 (n : Int) (h : (Lit.int .u8 n).wf = true) : 0 ≤ n ∧ n ≤ 255 := by
  simp [Lit.wf, IntKind.min, IntKind.max, IntKind.signed, IntKind.bits] at h
  omega
theorem open_bytes {t e : TypeId} {fuel : Nat} {v : Value} {x : DataW H × List MemPlace} (ht : P.underlying t = some (.slice e)) (ce : P.cellsOf e = 1) (u0 : P.underlying e = some (.int .u8))
    (h : DataW.trod enc P w 0 spare held fuel t [v] = some x) : ∃ (a : Option Addr) (l c : Nat), v = .slice a l c ∧ l ≤ c ∧ c ≤ maxLen ∧ ∀ j, j < l → ∃ b o, a = some ⟨b, o, none⟩ ∧ b < w.heap.size ∧ ∃ x : Int, 0 ≤ x ∧ x ≤ 255 ∧ w.cell? ⟨b, o + j, none⟩ = some (.int .u8 x) := by
  rcases open_slice ht h with ⟨h0, _⟩ | ⟨a, len, cap, m, n, D, Pl, hcs, hb, hl, hm, hmm, rfl, hx⟩
  · simp at h0; subst h0
    exact ⟨none, 0, 0, rfl, Nat.le_refl _, by unfold maxLen; omega, fun j hj => absurd hj (by omega)⟩
  simp at hcs; subst hcs
  have hlm : len ≤ m := by rw [hmm]; split <;> omega
  have each : ∀ j, j < len → ∃ z : Int, w.cell? (a.add j) = some (.int .u8 z) ∧ (Lit.int .u8 z).wf = true := by
    intro j hj
    obtain ⟨cs', h1, h2⟩ := hx j (by omega)
    rw [ce] at h1
    obtain ⟨_, hlen, hcell⟩ := World.cells?_some h1
    match cs', hlen with
    | [v0], _ =>
      have e0 := hcell 0 (by omega)
      obtain ⟨z0, q0, _, w0⟩ := DataW.trod_int u0 h2
      simp at q0
      subst q0
      exact ⟨z0, by simpa [Addr.add] using e0, w0⟩
  refine ⟨some a, len, cap, rfl, hl, hm, fun j hj => ?_⟩
  have hs : a.spot = none := by
    obtain ⟨z, hz, _⟩ := each 0 (by omega)
    have := World.cell?_spot hz
    simpa [Addr.add] using this
  obtain ⟨z0, e1, w0⟩ := each j hj
  obtain ⟨b, o, sp⟩ := a
  simp at hs; subst hs
  rw [Go.WideShapes.add_plain] at e1
  have hlt := World.block_lt_of_cell? _ _ e1
  obtain ⟨w1, w2⟩ := wf_u8 z0 w0
  exact ⟨b, o, rfl, by simpa using hlt, z0, w1, w2, e1⟩
end
end Go.Proofs.YtbmoimfimeiglaaGreat
namespace Go.Proofs.YtbmoimfimeiglaaGreat
open Go.RowKit Go.Deep
set_option linter.unusedVariables false
theorem Cur.new {w : World} {v : Value} {l : Nat} (h : BytesB w w.heap.size v l) (g : Int) (t : TypeId) : Cur (w.alloc (.cells #[v, .int .i64 0, .int .i64 g] t)) w.heap.size v l := by
  refine ⟨by simp, fun o => by simp, by simp, ⟨0, by simp, by omega, by omega⟩, ⟨g, by simp⟩, ?_⟩
  obtain ⟨a, c, hv, hl, hm, hb⟩ := h
  refine ⟨a, c, hv, hl, hm, fun j hj => ?_⟩
  obtain ⟨b, o, ha, hlt, x, x0, x1, hx⟩ := hb j hj
  exact ⟨b, o, ha, hlt, x, x0, x1, (cell_blk (Below.heap_alloc w _ _ hlt)).trans hx⟩
set_option maxHeartbeats 4000000 in
set_option maxRecDepth 100000 in
theorem l01New_any (v : Value) (l : Nat) (w : World) (h : BytesB w w.heap.size v l) :
    Calls Tryz.prog 22 #[v] w fun e w' => e = .returned (.pointer (some ⟨w.heap.size, 0, none⟩)) ∧ Cur w' w.heap.size v l ∧ Below w.heap.size w w' := by
  have h' := h
  obtain ⟨a, c, rfl, hl, hm, hb⟩ := h'
  go_enter Tryz.func22, Tryz.ntmps22
  go_wp2_with fail
  go_loopw [3, 4] (fun o i wr => ∃ (g : Int) (k : Nat), o = .int .i64 g ∧ i = .int .i64 k ∧ k ≤ l ∧ wr = w) (fun _ i _ => l - (intOf i).toNat)
  case atStart => exact ⟨_, 0, rfl, rfl, Nat.zero_le _, rfl⟩
  case round =>
    obtain ⟨g, k, rfl, rfl, hk, rfl⟩ := hrel
    by_cases hlt : k < l
    · obtain ⟨b, o, rfl, hbl, y, y0, y1, hy⟩ := hb k hlt
      by_cases h4 : k < 4000
      · clear hb
        go_wp2_with fail
        exact ⟨⟨_, k + 1, rfl, by simp, by omega, trivial⟩, by simp [intOf]; omega⟩
      · clear hb
        go_wp2_with fail
        go_returns
        exact ⟨rfl, Cur.new h _ _, by go_grown⟩
    · obtain rfl : k = l := by omega
      clear hb
      go_wp2_with fail
      go_returns
      exact ⟨rfl, Cur.new h _ _, by go_grown⟩
end Go.Proofs.YtbmoimfimeiglaaGreat
namespace Go.Proofs.YtbmoimfimeiglaaGreat
open Go.RowKit
set_option linter.unusedVariables false
set_option maxHeartbeats 2000000 in
theorem big_any (a : Option Addr) (l c : Nat) (w : World) (hl : l ≤ 4611686018427387904) : Calls Tryz.prog 4 #[.slice a l c] w fun e w' => e = .returned (.bool (decide ((1048576 : Int) < l))) ∧ w' = w := by
  go_enter Tryz.func4, Tryz.ntmps4
  go_wp2
  go_returns
  exact ⟨rfl, rfl⟩
end Go.Proofs.YtbmoimfimeiglaaGreat
