/- Own texts, joined: contracts that the law's proof goes by. -/
import Derived.Test.YtbmoimfimeiglaaGreatGLFnLog4
import Derived.Handy
import Derived.BigQuiet
import Derived.Deep.RegionHeld3
namespace Go.Proofs.YtbmoimfimeiglaaGreat
open Go.RowKit Go.Deep
set_option linter.unusedVariables false
def BytesB (w : World) (B : Nat) (v : Value) (l : Nat) : Prop :=
  ∃ (a : Option Addr) (c : Nat), v = .slice a l c ∧ l ≤ c ∧ l ≤ 1048576 ∧ ∀ j, j < l → ∃ b o, a = some ⟨b, o, none⟩ ∧ b < B ∧ ∃ x : Int, 0 ≤ x ∧ x ≤ 255 ∧ w.cell? ⟨b, o + j, none⟩ = some (.int .u8 x)
structure Cur (w : World) (B : Nat) (v : Value) (l : Nat) : Prop where
  lt : B < w.heap.size
  fr : ∀ o, w.frozen? ⟨B, o, none⟩ = false
  c0 : w.cell? ⟨B, 0, none⟩ = some v
  at1 : ∃ i : Int, w.cell? ⟨B, 1, none⟩ = some (.int .i64 i) ∧ 0 ≤ i ∧ i ≤ l
  at2 : ∃ h : Int, w.cell? ⟨B, 2, none⟩ = some (.int .i64 h)
  by_ : BytesB w B v l
theorem Cur.keep {w w' : World} {B : Nat} {v : Value} {l : Nat} (h : Cur w B v l) (hs : w.heap.size ≤ w'.heap.size) (hk : ∀ b, b ≤ B → w'.heap[b]? = w.heap[b]?) : Cur w' B v l := by
  obtain ⟨i, hi, h0, h1⟩ := h.at1
  obtain ⟨q, hq⟩ := h.at2
  have hB := hk B (Nat.le_refl _)
  refine ⟨Nat.lt_of_lt_of_le h.lt hs, fun o => (frozen_blk hB).trans (h.fr o), (cell_blk hB).trans h.c0, ⟨i, (cell_blk hB).trans hi, h0, h1⟩, ⟨q, (cell_blk hB).trans hq⟩, ?_⟩
  obtain ⟨a, c, hv, hl, hm, hb⟩ := h.by_
  refine ⟨a, c, hv, hl, hm, fun j hj => ?_⟩
  obtain ⟨b, o, ha, hlt, x, x0, x1, hx⟩ := hb j hj
  exact ⟨b, o, ha, hlt, x, x0, x1, (cell_blk (hk b (by omega))).trans hx⟩
theorem Cur.below {w w' : World} {B : Nat} {v : Value} {l : Nat} (h : Cur w B v l) (hb : Below w.heap.size w w') : Cur w' B v l := h.keep hb.size fun b hb' => hb.block b (Nat.lt_of_le_of_lt hb' h.lt)
theorem BytesB.set {w : World} {B : Nat} {v : Value} {l : Nat} (h : BytesB w B v l) (k : Nat) (u : Value) : BytesB (w.setCell ⟨B, k, none⟩ u) B v l := by
  obtain ⟨a, c, hv, hl, hm, hb⟩ := h
  refine ⟨a, c, hv, hl, hm, fun j hj => ?_⟩
  obtain ⟨b, o, ha, hlt, x, x0, x1, hx⟩ := hb j hj
  exact ⟨b, o, ha, hlt, x, x0, x1, (World.cell?_setCell_other _ _ _ _ (by intro e; have := congrArg Addr.block e; simp at this; omega)).trans hx⟩
theorem Cur.set1 {w : World} {B : Nat} {v : Value} {l : Nat} (h : Cur w B v l) {i : Int} (h0 : 0 ≤ i) (h1 : i ≤ l) : Cur (w.setCell ⟨B, 1, none⟩ (.int .i64 i)) B v l := by
  obtain ⟨i', hi, _, _⟩ := h.at1
  obtain ⟨q, hq⟩ := h.at2
  exact ⟨by simpa using h.lt, fun o => by rw [World.frozen?_setCell]; exact h.fr o, (World.cell?_setCell_other _ _ _ _ (by simp)).trans h.c0, ⟨i, World.cell?_setCell_same _ _ _ hi, h0, h1⟩, ⟨q, (World.cell?_setCell_other _ _ _ _ (by simp)).trans hq⟩, h.by_.set _ _⟩
theorem Cur.set2 {w : World} {B : Nat} {v : Value} {l : Nat} (h : Cur w B v l) (g : Int) : Cur (w.setCell ⟨B, 2, none⟩ (.int .i64 g)) B v l := by
  obtain ⟨i, hi, h0, h1⟩ := h.at1
  obtain ⟨q, hq⟩ := h.at2
  exact ⟨by simpa using h.lt, fun o => by rw [World.frozen?_setCell]; exact h.fr o, (World.cell?_setCell_other _ _ _ _ (by simp)).trans h.c0, ⟨i, (World.cell?_setCell_other _ _ _ _ (by simp)).trans hi, h0, h1⟩, ⟨g, World.cell?_setCell_same _ _ _ hq⟩, h.by_.set _ _⟩
theorem Cur.drew {w : World} {B : Nat} {v : Value} {l : Nat} (h : Cur w B v l) (n : Nat) : Cur (w.drewN n) B v l := h.below ⟨rfl, rfl, rfl, Nat.le_refl _, fun _ _ => rfl⟩
theorem Chg.drew {w w' : World} {F : List Nat} (h : Chg F w w') (n : Nat) : Chg F w (w'.drewN n) := h.trans ⟨rfl, rfl, rfl, Nat.le_refl _, fun _ _ _ => rfl, id⟩
structure Drew (B : Nat) (v : Value) (l : Nat) (w w' : World) : Prop where
  lt : B < w.heap.size
  cur : Cur w' B v l
  chg : Chg [B] w w'
theorem Cur.start {w : World} {B : Nat} {v : Value} {l : Nat} (h : Cur w B v l) : Drew B v l w w := ⟨h.lt, h, Chg.refl _ _⟩
theorem Drew.trans {w w1 w2 : World} {B : Nat} {v : Value} {l : Nat} (h : Drew B v l w w1) (k : Drew B v l w1 w2) : Drew B v l w w2 := ⟨h.lt, k.cur, h.chg.trans k.chg⟩
theorem Drew.below {w w1 w2 : World} {B : Nat} {v : Value} {l : Nat} (h : Drew B v l w w1) (k : Below w1.heap.size w1 w2) : Drew B v l w w2 :=
  ⟨h.lt, h.cur.below k, h.chg.trans (Chg.of_below k (fun b hb => by rcases List.mem_singleton.1 hb with rfl; exact h.cur.lt))⟩
theorem Drew.alloc {w w1 : World} {B : Nat} {v : Value} {l : Nat} (h : Drew B v l w w1) (o : Obj) : Drew B v l w (w1.alloc o) := h.below ((Below.refl _ _).alloc (Nat.le_refl _) _)
theorem Drew.drew {w w1 : World} {B : Nat} {v : Value} {l : Nat} (h : Drew B v l w w1) (n : Nat) : Drew B v l w (w1.drewN n) := h.below ⟨rfl, rfl, rfl, Nat.le_refl _, fun _ _ => rfl⟩
theorem Drew.set {w w1 : World} {B : Nat} {v : Value} {l : Nat} (h : Drew B v l w w1) {p : Addr} (hp : w.heap.size ≤ p.block) (u : Value) : Drew B v l w (w1.setCell p u) := by
  have hlt := h.lt
  refine ⟨h.lt, h.cur.keep (by simp) fun b hb => Below.heap_setCell _ _ _ _ (by omega), ?_⟩
  exact ⟨h.chg.os, h.chg.tape, h.chg.output, by simpa using h.chg.size, fun k hk hF => (Below.heap_setCell _ _ _ _ (by omega)).trans (h.chg.block k hk hF), fun f b hb o => by rw [World.frozen?_setCell]; exact h.chg.free f b hb o⟩
theorem Drew.old {w w1 : World} {B : Nat} {v : Value} {l : Nat} (h : Drew B v l w w1) {N : Nat} (hN : N < w.heap.size) (hB : N ≠ B) : w1.heap[N]? = w.heap[N]? := h.chg.block N hN (by simpa using hB)
structure VarV (w : World) (N : Nat) (k n : Int) (s : ByteArray) : Prop where
  lt : N < w.heap.size
  fr : ∀ o, w.frozen? ⟨N, o, none⟩ = false
  c0 : w.cell? ⟨N, 0, none⟩ = some (.int .i64 k)
  c1 : w.cell? ⟨N, 1, none⟩ = some (.int .i64 n)
  c2 : w.cell? ⟨N, 2, none⟩ = some (.string s)
theorem VarV.keep {w w' : World} {N : Nat} {k n : Int} {s : ByteArray} (h : VarV w N k n s) (hs : w.heap.size ≤ w'.heap.size) (hk : w'.heap[N]? = w.heap[N]?) : VarV w' N k n s :=
  ⟨Nat.lt_of_lt_of_le h.lt hs, fun o => (frozen_blk hk).trans (h.fr o), (cell_blk hk).trans h.c0, (cell_blk hk).trans h.c1, (cell_blk hk).trans h.c2⟩
theorem VarV.drew {w w' : World} {N B : Nat} {v : Value} {l : Nat} {k n : Int} {s : ByteArray} (h : VarV w N k n s) (hd : Drew B v l w w') (hN : N ≠ B) : VarV w' N k n s := h.keep hd.chg.size (hd.old h.lt hN)
theorem VarV.below {w w' : World} {N : Nat} {k n : Int} {s : ByteArray} (h : VarV w N k n s) (hd : Below w.heap.size w w') : VarV w' N k n s := h.keep hd.size (hd.block N h.lt)
theorem VarV.new (w : World) (k n : Int) (s : ByteArray) (t : TypeId) : VarV (w.alloc (.cells #[.int .i64 k, .int .i64 n, .string s] t)) w.heap.size k n s :=
  ⟨by simp, fun o => by simp, by simp, by simp, by simp⟩
theorem and255 (y : Int) : 0 ≤ bits .and .i64 y 255 ∧ bits .and .i64 y 255 ≤ 255 := by
  have h : (BitVec.ofInt 64 y &&& BitVec.ofInt 64 255).toNat ≤ 255 := by
    rw [BitVec.toNat_and, show (BitVec.ofInt 64 255).toNat = 255 from rfl]; exact Nat.and_le_right
  show 0 ≤ IntKind.i64.wrap ((BitVec.ofInt 64 y &&& BitVec.ofInt 64 255).toNat : Int) ∧ IntKind.i64.wrap ((BitVec.ofInt 64 y &&& BitVec.ofInt 64 255).toNat : Int) ≤ 255
  rw [IntKind.wrap_i64]
  omega
set_option maxHeartbeats 2000000 in
set_option maxRecDepth 100000 in
theorem l01Byte_any (B : Nat) (v : Value) (l : Nat) (w : World) (h : Cur w B v l) :
    Calls Tryz.prog 81 #[.pointer (some ⟨B, 0, none⟩)] w fun e w' => (∃ x : Int, e = .returned (.int .i64 x) ∧ 0 ≤ x ∧ x ≤ 255) ∧ Drew B v l w w' := by
  obtain ⟨i, hi, hi0, hi1⟩ := h.at1
  obtain ⟨q, hq⟩ := h.at2
  have hfr := h.fr
  have hc0 := h.c0
  have hlt := h.lt
  obtain ⟨a, c, rfl, hl, hm, hb⟩ := h.by_
  have hlI : (l : Int) ≤ 1048576 := by omega
  by_cases hil : i < (l : Int)
  · obtain ⟨n, rfl⟩ : ∃ n : Nat, i = n := ⟨i.toNat, by omega⟩
    obtain ⟨b, o, rfl, hbl, y, y0, y1, hy⟩ := hb n (by omega)
    have hne : b ≠ B := by omega
    clear hb
    have hnl : n < l := by omega
    go_enter Tryz.func81, Tryz.ntmps81
    go_wp2_with fail
    generalize wrap64 (wrap64 (q * 6364136223846793005) + 1442695040888963407) = g
    go_quiet (fail)
    go_wp2_with fail
    have hX := and255 (bits BinOp.xor IntKind.i64 (g / 8589934592) (g / 35184372088832))
    generalize bits BinOp.and IntKind.i64 (bits BinOp.xor IntKind.i64 (g / 8589934592) (g / 35184372088832)) 255 = x at hX ⊢
    go_quiet (fail)
    go_wp2_with fail
    go_quiet (fail)
    go_wp2_with fail
    go_returns
    exact ⟨⟨_, rfl, and255 _⟩, hlt, ((h.set2 g).drew _).set1 (by omega) (by omega), (((Chg.refl [B] w).setCell (by simp) _).drew _).setCell (by simp) _⟩
  · clear hb
    go_enter Tryz.func81, Tryz.ntmps81
    go_wp2_with fail
    generalize wrap64 (wrap64 (q * 6364136223846793005) + 1442695040888963407) = g
    go_quiet (fail)
    go_wp2_with fail
    have hX := and255 (bits BinOp.xor IntKind.i64 (g / 8589934592) (g / 35184372088832))
    generalize bits BinOp.and IntKind.i64 (bits BinOp.xor IntKind.i64 (g / 8589934592) (g / 35184372088832)) 255 = x at hX ⊢
    go_quiet (fail)
    go_wp2_with fail
    go_returns
    exact ⟨⟨_, rfl, hX⟩, hlt, ((h.set2 g).drew _).drew _, (((Chg.refl [B] w).setCell (by simp) _).drew _).drew _⟩
set_option maxHeartbeats 1000000 in
set_option maxRecDepth 100000 in
theorem l01Below_any (n : Int) (B : Nat) (v : Value) (l : Nat) (w : World) (h : Cur w B v l) (h1 : 1 ≤ n) (h2 : n ≤ 256) :
    Calls Tryz.prog 52 #[.pointer (some ⟨B, 0, none⟩), .int .i64 n] w fun e w' => (∃ x : Int, e = .returned (.int .i64 x) ∧ 0 ≤ x ∧ x < n) ∧ Drew B v l w w' := by
  go_enter Tryz.func52, Tryz.ntmps52
  go_wp2_with fail
  refine (l01Byte_any B v l w h).mono ?_
  rintro e w1 ⟨⟨x, rfl, x0, x1⟩, hd1⟩
  go_wp2_with fail
  go_returns
  exact ⟨⟨_, rfl, Int.emod_nonneg _ (by omega), Int.emod_lt_of_pos _ (by omega)⟩, hd1⟩
end Go.Proofs.YtbmoimfimeiglaaGreat
namespace Go.Proofs.YtbmoimfimeiglaaGreat
open Go.RowKit Go.Deep
set_option linter.unusedVariables false
set_option maxHeartbeats 1000000 in
set_option maxRecDepth 100000 in
theorem l01Once_any (n : Int) (B : Nat) (v : Value) (l : Nat) (w : World) (h : Cur w B v l) (h1 : 1 ≤ n) (h2 : n ≤ 256) :
    Calls Tryz.prog 82 #[.pointer (some ⟨B, 0, none⟩), .int .i64 n] w fun e w' => (∃ b : Bool, e = .returned (.bool b)) ∧ Drew B v l w w' := by
  go_enter Tryz.func82, Tryz.ntmps82
  go_wp2_with fail
  refine (l01Below_any n B v l w h h1 h2).mono ?_
  rintro e w1 ⟨⟨x, rfl, x0, x1⟩, hd1⟩
  go_wp2_with fail
  go_returns
  exact ⟨⟨_, rfl⟩, hd1⟩
set_option maxHeartbeats 1000000 in
set_option maxRecDepth 100000 in
theorem l01PickInt_any (P : Int → Prop) (S m c : Nat) (B : Nat) (v : Value) (l : Nat) (w : World) (h : Cur w B v l) (h1 : 1 ≤ m) (h2 : m ≤ 256) (hmc : m ≤ c) (hS : S ≠ B) (hlt : S < w.heap.size) (hx : ∀ j, j < m → ∃ x : Int, w.cell? ⟨S, j, none⟩ = some (.int .i64 x) ∧ P x) :
    Calls Tryz.prog 109 #[.pointer (some ⟨B, 0, none⟩), .slice (some ⟨S, 0, none⟩) m c] w fun e w' => (∃ x : Int, e = .returned (.int .i64 x) ∧ P x) ∧ Drew B v l w w' := by
  go_enter Tryz.func109, Tryz.ntmps109
  go_wp2_with fail
  refine (l01Below_any m B v l w h (by omega) (by omega)).mono ?_
  rintro e w1 ⟨⟨i, rfl, i0, i1⟩, hd1⟩
  obtain ⟨n, rfl⟩ : ∃ n : Nat, i = n := ⟨i.toNat, by omega⟩
  obtain ⟨x, hx1, hP⟩ := hx n (by omega)
  have hx2 : w1.cell? ⟨S, n, none⟩ = some (.int .i64 x) := (cell_blk (hd1.old hlt hS)).trans hx1
  have hnm : n < m := by omega
  clear hx hx1
  go_wp2_with fail
  go_returns
  exact ⟨⟨_, rfl, hP⟩, hd1⟩
set_option maxHeartbeats 1000000 in
set_option maxRecDepth 100000 in
theorem l01Pick_any (P : ByteArray → Prop) (S m c : Nat) (B : Nat) (v : Value) (l : Nat) (w : World) (h : Cur w B v l) (h1 : 1 ≤ m) (h2 : m ≤ 256) (hmc : m ≤ c) (hS : S ≠ B) (hlt : S < w.heap.size) (hx : ∀ j, j < m → ∃ x : ByteArray, w.cell? ⟨S, j, none⟩ = some (.string x) ∧ P x) :
    Calls Tryz.prog 53 #[.pointer (some ⟨B, 0, none⟩), .slice (some ⟨S, 0, none⟩) m c] w fun e w' => (∃ x : ByteArray, e = .returned (.string x) ∧ P x) ∧ Drew B v l w w' := by
  go_enter Tryz.func53, Tryz.ntmps53
  go_wp2_with fail
  refine (l01Below_any m B v l w h (by omega) (by omega)).mono ?_
  rintro e w1 ⟨⟨i, rfl, i0, i1⟩, hd1⟩
  obtain ⟨n, rfl⟩ : ∃ n : Nat, i = n := ⟨i.toNat, by omega⟩
  obtain ⟨x, hx1, hP⟩ := hx n (by omega)
  have hx2 : w1.cell? ⟨S, n, none⟩ = some (.string x) := (cell_blk (hd1.old hlt hS)).trans hx1
  have hnm : n < m := by omega
  clear hx hx1
  go_wp2_with fail
  go_returns
  exact ⟨⟨_, rfl, hP⟩, hd1⟩
end Go.Proofs.YtbmoimfimeiglaaGreat
namespace Go.Proofs.YtbmoimfimeiglaaGreat
open Go.RowKit Go.Deep
set_option linter.unusedVariables false
set_option maxHeartbeats 1000000 in
set_option maxRecDepth 100000 in
theorem l01IntV_any (n : Int) (w : World) : Calls Tryz.prog 73 #[.int .i64 n] w fun e w' => e = .returned (.agg #[.int .i64 1, .int .i64 n, .string ⟨#[]⟩]) ∧ Below w.heap.size w w' := by
  go_enter Tryz.func73, Tryz.ntmps73
  go_wp2_with fail
  go_returns
  exact ⟨rfl, by go_grown⟩
set_option maxHeartbeats 1000000 in
set_option maxRecDepth 100000 in
theorem l01BoolV_any (b : Bool) (w : World) : Calls Tryz.prog 126 #[.bool b] w fun e w' => (∃ n : Int, e = .returned (.agg #[.int .i64 2, .int .i64 n, .string ⟨#[]⟩]) ∧ 0 ≤ n ∧ n ≤ 1) ∧ Below w.heap.size w w' := by
  cases b
  all_goals
    go_enter Tryz.func126, Tryz.ntmps126
    go_wp2_with fail
    go_returns
    exact ⟨⟨_, rfl, by omega, by omega⟩, by go_grown⟩
theorem VarV.old {w w' : World} {N B : Nat} {v : Value} {l : Nat} {k n : Int} {s : ByteArray} (h : VarV w N k n s) (hd : Drew B v l w w') (hN : B < N) : N < w'.heap.size ∧ (∀ o, w'.frozen? ⟨N, o, none⟩ = false) ∧ w'.cell? ⟨N, 0, none⟩ = some (.int .i64 k) ∧ w'.cell? ⟨N, 1, none⟩ = some (.int .i64 n) ∧ w'.cell? ⟨N, 2, none⟩ = some (.string s) :=
  have h' := h.drew hd (by omega)
  ⟨h'.lt, h'.fr, h'.c0, h'.c1, h'.c2⟩
theorem cells_at (w : World) (c : Array Value) (t : TypeId) (j : Nat) : (w.alloc (.cells c t)).cell? ⟨w.heap.size, j, none⟩ = c[j]? := by simp
def ValD (a b : Int) (m : Nat) (e : Ending) : Prop := ∃ (k n : Int) (s : ByteArray), e = .returned (.agg #[.int .i64 k, .int .i64 n, .string s]) ∧ a ≤ k ∧ k ≤ b ∧ -9223372036854775808 ≤ n ∧ n ≤ 9223372036854775807 ∧ s.size ≤ m
set_option maxHeartbeats 4000000 in
set_option maxRecDepth 100000 in
theorem l01Value_any (B : Nat) (v : Value) (l : Nat) (w : World) (h : Cur w B v l) :
    Calls Tryz.prog 119 #[.pointer (some ⟨B, 0, none⟩)] w fun e w' => ValD 0 3 8 e ∧ Drew B v l w w' := by
  have hB := h.lt
  go_enter Tryz.func119, Tryz.ntmps119
  go_wp2_with fail
  refine (l01Below_any 9 B v l _ (h.below (by go_grown)) (by omega) (by omega)).mono ?_
  rintro e w1 ⟨⟨x, rfl, x0, x1⟩, hd1⟩
  have hV1 := (VarV.new w 0 0 ⟨#[]⟩ _).drew hd1 (by omega)
  have hD1 := ((h.start).alloc _).trans hd1
  have hx : x = 0 ∨ (x = 1 ∨ x = 2 ∨ x = 3) ∨ x = 4 ∨ x = 5 ∨ (x = 6 ∨ x = 7 ∨ x = 8) := by omega
  clear x0 x1
  rcases hx with rfl | hx | rfl | rfl | hx
  · obtain ⟨g1, g2, g3, g4, g5⟩ := hV1
    go_wp2_with fail
    refine bodyPost_ret (v := .agg #[.int .i64 0, .int .i64 0, .string ⟨#[]⟩]) (by simp [results, Tryz.results119, go_sem, *]) rfl ⟨⟨_, _, _, rfl, by omega, by omega, by omega, by omega, by decide⟩, ?_⟩
    repeat first | exact hD1 | refine Drew.set ?_ (by simp) _ | refine Drew.alloc ?_ _
  · rcases hx with rfl | rfl | rfl
    all_goals
      go_wp2_with fail
      refine (l01Below_any 5 B v l _ hD1.cur (by omega) (by omega)).mono ?_
      rintro e w2 ⟨⟨y, rfl, y0, y1⟩, hd2⟩
      have hV2 := hV1.drew hd2 (by omega)
      have hD2 := hD1.trans hd2
      go_wp2_with fail
      refine (l01IntV_any y _).mono ?_
      rintro e w3 ⟨rfl, hb3⟩
      have hD3 := hD2.below hb3
      obtain ⟨g1, g2, g3, g4, g5⟩ := hV2.below hb3
      go_wp2_with fail
      refine bodyPost_ret (v := .agg #[.int .i64 1, .int .i64 y, .string ⟨#[]⟩]) (by simp [results, Tryz.results119, go_sem, *]) rfl ⟨⟨_, _, _, rfl, by omega, by omega, by omega, by omega, by decide⟩, ?_⟩
      repeat first | exact hD3 | refine Drew.set ?_ (by simp) _ | refine Drew.alloc ?_ _
  · go_wp2_with fail
    refine (l01PickInt_any (fun x => -9223372036854775808 ≤ x ∧ x ≤ 9223372036854775807) w1.heap.size 6 6 B v l _ (hD1.alloc _).cur (by omega) (by omega) (by omega) (by have := hD1.cur.lt; omega) (by simp) ?_).mono ?_
    · intro j hj
      rw [cells_at]
      rcases j with _ | _ | _ | _ | _ | _ | j
      all_goals first | exact ⟨_, rfl, by decide, by decide⟩ | omega
    rintro e w2 ⟨⟨y, rfl, y0, y1⟩, hd2⟩
    have hV2 := (hV1.below ((Below.refl _ _).alloc (Nat.le_refl _) _)).drew hd2 (by omega)
    have hD2 := (hD1.alloc _).trans hd2
    go_wp2_with fail
    refine (l01IntV_any y _).mono ?_
    rintro e w3 ⟨rfl, hb3⟩
    have hD3 := hD2.below hb3
    obtain ⟨g1, g2, g3, g4, g5⟩ := hV2.below hb3
    go_wp2_with fail
    refine bodyPost_ret (v := .agg #[.int .i64 1, .int .i64 y, .string ⟨#[]⟩]) (by simp [results, Tryz.results119, go_sem, *]) rfl ⟨⟨_, _, _, rfl, by omega, by omega, by omega, by omega, by decide⟩, ?_⟩
    repeat first | exact hD3 | refine Drew.set ?_ (by simp) _ | refine Drew.alloc ?_ _
  · go_wp2_with fail
    refine (l01Once_any 2 B v l _ hD1.cur (by omega) (by omega)).mono ?_
    rintro e w2 ⟨⟨y, rfl⟩, hd2⟩
    have hV2 := hV1.drew hd2 (by omega)
    have hD2 := hD1.trans hd2
    go_wp2_with fail
    refine (l01BoolV_any y _).mono ?_
    rintro e w3 ⟨⟨n, rfl, n0, n1⟩, hb3⟩
    have hD3 := hD2.below hb3
    obtain ⟨g1, g2, g3, g4, g5⟩ := hV2.below hb3
    go_wp2_with fail
    refine bodyPost_ret (v := .agg #[.int .i64 2, .int .i64 n, .string ⟨#[]⟩]) (by simp [results, Tryz.results119, go_sem, *]) rfl ⟨⟨_, _, _, rfl, by omega, by omega, by omega, by omega, by decide⟩, ?_⟩
    repeat first | exact hD3 | refine Drew.set ?_ (by simp) _ | refine Drew.alloc ?_ _
  · rcases hx with rfl | rfl | rfl
    all_goals
      go_wp2_with fail
      refine (l01Pick_any (fun x => x.size ≤ 8) w1.heap.size 5 5 B v l _ (hD1.alloc _).cur (by omega) (by omega) (by omega) (by have := hD1.cur.lt; omega) (by simp) ?_).mono ?_
      · intro j hj
        rw [cells_at]
        rcases j with _ | _ | _ | _ | _ | j
        all_goals first | exact ⟨_, rfl, by decide⟩ | omega
      rintro e w2 ⟨⟨y, rfl, y0⟩, hd2⟩
      have hD2 := (hD1.alloc _).trans hd2
      obtain ⟨g1, g2, g3, g4, g5⟩ := (hV1.below ((Below.refl _ _).alloc (Nat.le_refl _) _)).drew hd2 (by omega)
      go_wp2_with fail
      refine bodyPost_ret (v := .agg #[.int .i64 3, .int .i64 0, .string y]) (by simp [results, Tryz.results119, go_sem, *]) rfl ⟨⟨_, _, _, rfl, by omega, by omega, by omega, by omega, y0⟩, ?_⟩
      repeat first | exact hD2 | refine Drew.set ?_ (by simp) _ | refine Drew.alloc ?_ _
end Go.Proofs.YtbmoimfimeiglaaGreat
namespace Go.Proofs.YtbmoimfimeiglaaGreat
open Go.RowKit
set_option linter.unusedVariables false
set_option maxHeartbeats 2000000 in
theorem big_any (a : Option Addr) (l c : Nat) (w : World) (hl : l ≤ 4611686018427387904) : Calls Tryz.prog 4 #[.slice a l c] w fun e w' => e = .returned (.bool (decide ((1048576 : Int) < l))) ∧ w' = w := by
  go_enter Tryz.func4, Tryz.ntmps4
  go_wp2
  go_returns
  exact ⟨rfl, rfl⟩
end Go.Proofs.YtbmoimfimeiglaaGreat
