/- Own text. The contract of spec.l03Eval and of spec.Eval. -/
import Derived.Test.YtbhojlchibmfpaaEvR
import Derived.Test.YtbhojlchibmfpaaExpOkS
import Derived.Test.YtbhojlchibmfpaaRowC
namespace Go.Proofs.Ytbhojlchibmfpaa
open Go.RowKit
set_option linter.unusedVariables false
/-- l03Eval of an expression with at most f levels. -/
def EvS (f : Nat) : Prop := ∀ (m : Int) (e : E7) (u : Value) (F : List Nat) (d : Nat) (v : Value) (vs : List V3) (r : V3) (w : World), e.wf → KidsIs w d u e.ks F → RowIs w v vs → Res m f e vs r →
    Calls Try.prog 48 #[(.agg #[.int .i64 e.k, .int .i64 e.n, .int .i64 e.v.k, .int .i64 e.v.n, .string e.v.s, .string e.p, u]), v] w fun x w' => x = .returned (.agg #[.int .i64 r.k, .int .i64 r.n, .string r.s]) ∧ Below w.heap.size w w'
theorem one_lt {l : List E7} {x : E7} (h : l = [x]) : 0 < l.length := by rw [h]; exact Nat.one_pos
theorem l03Eval_zero : EvS 0 := fun _ _ _ _ _ _ _ _ _ _ _ _ h => h.elim
set_option maxHeartbeats 1600000 in
set_option maxRecDepth 100000 in
theorem l03Eval_0 {e : E7} {u : Value} {F : List Nat} {d : Nat} {v : Value} {vs : List V3} {w : World} (hw : e.wf) (hk : KidsIs w d u e.ks F) (hv : RowIs w v vs) (h0 : e.k = 0) (hn : 0 ≤ e.n) :
    Calls Try.prog 48 #[(.agg #[.int .i64 e.k, .int .i64 e.n, .int .i64 e.v.k, .int .i64 e.v.n, .string e.v.s, .string e.p, u]), v] w fun x w' => x = .returned (.agg #[.int .i64 (vs.getD e.n.toNat zeroR).k, .int .i64 (vs.getD e.n.toNat zeroR).n, .string (vs.getD e.n.toNat zeroR).s]) ∧ Below w.heap.size w w' := by
  obtain ⟨a, c, rfl, _, hc⟩ := hk.shape
  obtain ⟨a', c', b', o', rfl, hl', hc', ha'⟩ := hv.pick
  unfold maxLen at hc hc'
  clear hk hv
  by_cases hlt : e.n.toNat < vs.length
  · obtain ⟨rfl, hblt, hL⟩ := ha' _ hlt
    obtain ⟨N, hN⟩ : ∃ N : Nat, e.n = N := ⟨e.n.toNat, by omega⟩
    have hNt : e.n.toNat = N := by omega
    rw [hNt] at hlt ⊢
    obtain ⟨x, hx, c0, c1, c2, hbr⟩ := hL.at hblt (Below.refl _ _) hlt
    rw [List.getD_eq_getElem?_getD, hx, hN, h0]
    have hlt2 : (N : Int) < vs.length := by omega
    simp only [Option.getD_some]
    clear ha' hL hx hw
    go_enter Try.func48, Try.ntmps48
    go_wp2
    go_returns
    exact ⟨rfl, by repeat (first | (with_reducible exact Below.refl _ _) | (with_reducible refine Below.drew ?_) | (with_reducible refine Below.alloc ?_ ?hh _; case hh => first | (simp; done) | (simp; omega) | omega) | (with_reducible refine Below.setCell ?_ ?hh _; case hh => first | (simp; done) | (simp; omega) | omega) | refine bstep (by assumption) (by first | (simp; done) | (simp; omega) | omega) ?_)⟩
  · rw [List.getD_eq_getElem?_getD, List.getElem?_eq_none (by omega), h0]
    have hge : (vs.length : Int) ≤ e.n := by omega
    clear ha' hw
    go_enter Try.func48, Try.ntmps48
    go_wp2
    go_returns
    exact ⟨rfl, by repeat (first | (with_reducible exact Below.refl _ _) | (with_reducible refine Below.drew ?_) | (with_reducible refine Below.alloc ?_ ?hh _; case hh => first | (simp; done) | (simp; omega) | omega) | (with_reducible refine Below.setCell ?_ ?hh _; case hh => first | (simp; done) | (simp; omega) | omega) | refine bstep (by assumption) (by first | (simp; done) | (simp; omega) | omega) ?_)⟩
set_option maxHeartbeats 1600000 in
set_option maxRecDepth 100000 in
theorem l03Eval_1 {e : E7} {u : Value} {F : List Nat} {d : Nat} {v : Value} {vs : List V3} {w : World} (hw : e.wf) (hk : KidsIs w d u e.ks F) (hv : RowIs w v vs) (h0 : e.k = 1) :
    Calls Try.prog 48 #[(.agg #[.int .i64 e.k, .int .i64 e.n, .int .i64 e.v.k, .int .i64 e.v.n, .string e.v.s, .string e.p, u]), v] w fun x w' => x = .returned (.agg #[.int .i64 e.v.k, .int .i64 e.v.n, .string e.v.s]) ∧ Below w.heap.size w w' := by
  obtain ⟨a, c, rfl, _, hc⟩ := hk.shape
  rw [h0]
  clear hk hw
  go_enter Try.func48, Try.ntmps48
  go_wp2
  go_returns
  exact ⟨rfl, by repeat (first | (with_reducible exact Below.refl _ _) | (with_reducible refine Below.drew ?_) | (with_reducible refine Below.alloc ?_ ?hh _; case hh => first | (simp; done) | (simp; omega) | omega) | (with_reducible refine Below.setCell ?_ ?hh _; case hh => first | (simp; done) | (simp; omega) | omega) | refine bstep (by assumption) (by first | (simp; done) | (simp; omega) | omega) ?_)⟩
set_option maxHeartbeats 1600000 in
set_option maxRecDepth 100000 in
theorem l03Eval_3 {m : Int} {f : Nat} (hI : EvS f) {e x : E7} {r : V3} {u : Value} {F : List Nat} {d : Nat} {v : Value} {vs : List V3} {w : World} (hw : e.wf) (hk : KidsIs w d u e.ks F) (hv : RowIs w v vs) (h0 : e.k = 3) (hx : e.ks = [x]) (hr : Res m f x vs r) :
    Calls Try.prog 48 #[(.agg #[.int .i64 e.k, .int .i64 e.n, .int .i64 e.v.k, .int .i64 e.v.n, .string e.v.s, .string e.p, u]), v] w fun y w' => y = .returned (.agg #[.int .i64 (notK r.k r.n), .int .i64 (notN r.k r.n), .string ⟨#[]⟩]) ∧ Below w.heap.size w w' := by
  obtain ⟨d, rfl⟩ := hk.succ
  obtain ⟨a, c, b, o, G, rfl, hl, hc, hG, _, ha⟩ := hk.pick
  obtain ⟨rfl, hblt, _, hL⟩ := ha 0 (one_lt hx)
  obtain ⟨x', g, u, hx', hg, hxw, ⟨c0, c1, c2, c3, c4, c5⟩, c6, hK, hbr⟩ := hL.at hG hblt (Below.refl _ _) (k := 0) (one_lt hx)
  obtain rfl : x = x' := by rw [hx] at hx'; simpa using hx'
  obtain ⟨ax, cx, rfl, _, _⟩ := hK.shape
  obtain ⟨a', c', hv'⟩ : ∃ a' c', v = .slice a' vs.length c' := by obtain ⟨a', c', b', o', h, _⟩ := hv.pick; exact ⟨a', c', h⟩
  subst hv'
  unfold maxLen at hc
  have hlen : e.ks.length = 1 := by rw [hx]; rfl
  rw [h0, hlen]
  simp only [Nat.zero_mul, Nat.add_zero] at c0 c1 c2 c3 c4 c5 c6
  clear hk hw ha hL hx hx' h0 hlen hl hG
  go_enter Try.func48, Try.ntmps48
  go_wp2_with fail
  refine Calls.mono (hI m x (.slice ax x.ks.length cx) g d (.slice a' vs.length c') vs r _ hxw (hK.below ?hb) (hv.below ?hb2) hr) ?_
  case hb => repeat (first | (with_reducible exact Below.refl _ _) | (with_reducible refine Below.drew ?_) | (with_reducible refine Below.alloc ?_ ?hh _; case hh => first | (simp; done) | (simp; omega) | omega) | (with_reducible refine Below.setCell ?_ ?hh _; case hh => first | (simp; done) | (simp; omega) | omega) | refine bstep (by assumption) (by first | (simp; done) | (simp; omega) | omega) ?_)
  case hb2 => repeat (first | (with_reducible exact Below.refl _ _) | (with_reducible refine Below.drew ?_) | (with_reducible refine Below.alloc ?_ ?hh _; case hh => first | (simp; done) | (simp; omega) | omega) | (with_reducible refine Below.setCell ?_ ?hh _; case hh => first | (simp; done) | (simp; omega) | omega) | refine bstep (by assumption) (by first | (simp; done) | (simp; omega) | omega) ?_)
  rintro y w2 ⟨rfl, hb2⟩
  have hz2 := hb2.size
  simp at hz2
  have bel2 : Below w.heap.size w w2 := by repeat (first | (with_reducible exact Below.refl _ _) | (with_reducible refine Below.drew ?_) | (with_reducible refine Below.alloc ?_ ?hh _; case hh => first | (simp; done) | (simp; omega) | omega) | (with_reducible refine Below.setCell ?_ ?hh _; case hh => first | (simp; done) | (simp; omega) | omega) | refine bstep (by assumption) (by first | (simp; done) | (simp; omega) | omega) ?_)
  have q0 : w2.cell? ⟨w.heap.size + 1, 0, none⟩ = some (.int .i64 0) := cell_later hb2 (by go_simp)
  have q1 : w2.cell? ⟨w.heap.size + 1, 1, none⟩ = some (.int .i64 0) := cell_later hb2 (by go_simp)
  have q2 : w2.cell? ⟨w.heap.size + 1, 2, none⟩ = some (.string ⟨#[]⟩) := cell_later hb2 (by go_simp)
  have f2 := (bcell hb2).2
  go_wp2_with fail
  refine Calls.mono (specNot_any _ _ _ _) ?_
  rintro y w3 ⟨rfl, hb3⟩
  have hz3 := hb3.size
  have bel3 : Below w.heap.size w w3 := by repeat (first | (with_reducible exact Below.refl _ _) | (with_reducible refine Below.drew ?_) | (with_reducible refine Below.alloc ?_ ?hh _; case hh => first | (simp; done) | (simp; omega) | omega) | (with_reducible refine Below.setCell ?_ ?hh _; case hh => first | (simp; done) | (simp; omega) | omega) | refine bstep (by assumption) (by first | (simp; done) | (simp; omega) | omega) ?_)
  have r0 : w3.cell? ⟨w.heap.size + 1, 0, none⟩ = some (.int .i64 0) := cell_later hb3 q0
  have r1 : w3.cell? ⟨w.heap.size + 1, 1, none⟩ = some (.int .i64 0) := cell_later hb3 q1
  have r2 : w3.cell? ⟨w.heap.size + 1, 2, none⟩ = some (.string ⟨#[]⟩) := cell_later hb3 q2
  have f3 := (bcell hb3).2
  have hy : w.heap.size + 1 < w3.heap.size := by omega
  have hy2 : w.heap.size + 1 < w2.heap.size := by omega
  clear hI hK hv hr hb2 hb3 q0 q1 q2 c0 c1 c2 c3 c4 c5 c6
  go_wp2
  refine bodyPost_ret (v := .agg #[.int .i64 (notK r.k r.n), .int .i64 (notN r.k r.n), .string ⟨#[]⟩]) (by simp [results, Try.results48, go_sem, *]) rfl ⟨rfl, ?_⟩
  repeat (first | (with_reducible exact Below.refl _ _) | (with_reducible refine Below.drew ?_) | (with_reducible refine Below.alloc ?_ ?hh _; case hh => first | (simp; done) | (simp; omega) | omega) | (with_reducible refine Below.setCell ?_ ?hh _; case hh => first | (simp; done) | (simp; omega) | omega) | refine bstep (by assumption) (by first | (simp; done) | (simp; omega) | omega) ?_)
set_option maxHeartbeats 1600000 in
set_option maxRecDepth 100000 in
theorem l03Eval_4 {m : Int} {f : Nat} (hI : EvS f) {e x : E7} {r : V3} {u : Value} {F : List Nat} {d : Nat} {v : Value} {vs : List V3} {w : World} (hw : e.wf) (hk : KidsIs w d u e.ks F) (hv : RowIs w v vs) (h0 : e.k = 4) (hx : e.ks = [x]) (hr : Res m f x vs r) :
    Calls Try.prog 48 #[(.agg #[.int .i64 e.k, .int .i64 e.n, .int .i64 e.v.k, .int .i64 e.v.n, .string e.v.s, .string e.p, u]), v] w fun y w' => y = .returned (.agg #[.int .i64 2, .int .i64 (nulN r.k), .string ⟨#[]⟩]) ∧ Below w.heap.size w w' := by
  obtain ⟨d, rfl⟩ := hk.succ
  obtain ⟨a, c, b, o, G, rfl, hl, hc, hG, _, ha⟩ := hk.pick
  obtain ⟨rfl, hblt, _, hL⟩ := ha 0 (one_lt hx)
  obtain ⟨x', g, u, hx', hg, hxw, ⟨c0, c1, c2, c3, c4, c5⟩, c6, hK, hbr⟩ := hL.at hG hblt (Below.refl _ _) (k := 0) (one_lt hx)
  obtain rfl : x = x' := by rw [hx] at hx'; simpa using hx'
  obtain ⟨ax, cx, rfl, _, _⟩ := hK.shape
  obtain ⟨a', c', hv'⟩ : ∃ a' c', v = .slice a' vs.length c' := by obtain ⟨a', c', b', o', h, _⟩ := hv.pick; exact ⟨a', c', h⟩
  subst hv'
  unfold maxLen at hc
  have hlen : e.ks.length = 1 := by rw [hx]; rfl
  rw [h0, hlen]
  simp only [Nat.zero_mul, Nat.add_zero] at c0 c1 c2 c3 c4 c5 c6
  clear hk hw ha hL hx hx' h0 hlen hl hG
  go_enter Try.func48, Try.ntmps48
  go_wp2_with fail
  refine Calls.mono (hI m x (.slice ax x.ks.length cx) g d (.slice a' vs.length c') vs r _ hxw (hK.below ?hb) (hv.below ?hb2) hr) ?_
  case hb => repeat (first | (with_reducible exact Below.refl _ _) | (with_reducible refine Below.drew ?_) | (with_reducible refine Below.alloc ?_ ?hh _; case hh => first | (simp; done) | (simp; omega) | omega) | (with_reducible refine Below.setCell ?_ ?hh _; case hh => first | (simp; done) | (simp; omega) | omega) | refine bstep (by assumption) (by first | (simp; done) | (simp; omega) | omega) ?_)
  case hb2 => repeat (first | (with_reducible exact Below.refl _ _) | (with_reducible refine Below.drew ?_) | (with_reducible refine Below.alloc ?_ ?hh _; case hh => first | (simp; done) | (simp; omega) | omega) | (with_reducible refine Below.setCell ?_ ?hh _; case hh => first | (simp; done) | (simp; omega) | omega) | refine bstep (by assumption) (by first | (simp; done) | (simp; omega) | omega) ?_)
  rintro y w2 ⟨rfl, hb2⟩
  have hz2 := hb2.size
  simp at hz2
  have bel2 : Below w.heap.size w w2 := by repeat (first | (with_reducible exact Below.refl _ _) | (with_reducible refine Below.drew ?_) | (with_reducible refine Below.alloc ?_ ?hh _; case hh => first | (simp; done) | (simp; omega) | omega) | (with_reducible refine Below.setCell ?_ ?hh _; case hh => first | (simp; done) | (simp; omega) | omega) | refine bstep (by assumption) (by first | (simp; done) | (simp; omega) | omega) ?_)
  have q0 : w2.cell? ⟨w.heap.size + 1, 0, none⟩ = some (.int .i64 0) := cell_later hb2 (by go_simp)
  have q1 : w2.cell? ⟨w.heap.size + 1, 1, none⟩ = some (.int .i64 0) := cell_later hb2 (by go_simp)
  have q2 : w2.cell? ⟨w.heap.size + 1, 2, none⟩ = some (.string ⟨#[]⟩) := cell_later hb2 (by go_simp)
  have f2 := (bcell hb2).2
  go_wp2_with fail
  refine Calls.mono (specNul_any _ _ _ _) ?_
  rintro y w3 ⟨rfl, hb3⟩
  have hz3 := hb3.size
  have bel3 : Below w.heap.size w w3 := by repeat (first | (with_reducible exact Below.refl _ _) | (with_reducible refine Below.drew ?_) | (with_reducible refine Below.alloc ?_ ?hh _; case hh => first | (simp; done) | (simp; omega) | omega) | (with_reducible refine Below.setCell ?_ ?hh _; case hh => first | (simp; done) | (simp; omega) | omega) | refine bstep (by assumption) (by first | (simp; done) | (simp; omega) | omega) ?_)
  have r0 : w3.cell? ⟨w.heap.size + 1, 0, none⟩ = some (.int .i64 0) := cell_later hb3 q0
  have r1 : w3.cell? ⟨w.heap.size + 1, 1, none⟩ = some (.int .i64 0) := cell_later hb3 q1
  have r2 : w3.cell? ⟨w.heap.size + 1, 2, none⟩ = some (.string ⟨#[]⟩) := cell_later hb3 q2
  have f3 := (bcell hb3).2
  have hy : w.heap.size + 1 < w3.heap.size := by omega
  have hy2 : w.heap.size + 1 < w2.heap.size := by omega
  clear hI hK hv hr hb2 hb3 q0 q1 q2 c0 c1 c2 c3 c4 c5 c6
  go_wp2
  refine bodyPost_ret (v := .agg #[.int .i64 2, .int .i64 (nulN r.k), .string ⟨#[]⟩]) (by simp [results, Try.results48, go_sem, *]) rfl ⟨rfl, ?_⟩
  repeat (first | (with_reducible exact Below.refl _ _) | (with_reducible refine Below.drew ?_) | (with_reducible refine Below.alloc ?_ ?hh _; case hh => first | (simp; done) | (simp; omega) | omega) | (with_reducible refine Below.setCell ?_ ?hh _; case hh => first | (simp; done) | (simp; omega) | omega) | refine bstep (by assumption) (by first | (simp; done) | (simp; omega) | omega) ?_)
theorem two_lt {l : List E7} {x y : E7} (h : l = [x, y]) : 0 < l.length ∧ 1 < l.length := by rw [h]; exact ⟨Nat.two_pos, Nat.one_lt_two⟩
set_option maxHeartbeats 4000000 in
set_option maxRecDepth 100000 in
theorem l03Eval_2 {m : Int} {f : Nat} (hI : EvS f) {e x z : E7} {rx rz r : V3} {u : Value} {F : List Nat} {d : Nat} {v : Value} {vs : List V3} {w : World} (hw : e.wf) (hk : KidsIs w d u e.ks F) (hv : RowIs w v vs) (h0 : e.k = 2) (hx : e.ks = [x, z]) (hrx : Res m f x vs rx) (hrz : Res m f z vs rz) (hB : RB m e.p rx rz r) :
    Calls Try.prog 48 #[(.agg #[.int .i64 e.k, .int .i64 e.n, .int .i64 e.v.k, .int .i64 e.v.n, .string e.v.s, .string e.p, u]), v] w fun y w' => y = .returned (.agg #[.int .i64 r.k, .int .i64 r.n, .string r.s]) ∧ Below w.heap.size w w' := by
  obtain ⟨d, rfl⟩ := hk.succ
  obtain ⟨a, c, b, o, G, rfl, hl, hc, hG, _, ha⟩ := hk.pick
  obtain ⟨rfl, hblt, _, hL⟩ := ha 0 (two_lt hx).1
  obtain ⟨x', g, u, hx', hg, hxw, ⟨c0, c1, c2, c3, c4, c5⟩, c6, hK, hbr⟩ := hL.at hG hblt (Below.refl _ _) (k := 0) (two_lt hx).1
  obtain rfl : x = x' := by rw [hx] at hx'; simpa using hx'
  obtain ⟨ax, cx, rfl, _, _⟩ := hK.shape
  obtain ⟨z', g', u', hz', hg', hzw, ⟨d0, d1, d2, d3, d4, d5⟩, d6, hK', _⟩ := hL.at hG hblt (Below.refl _ _) (k := 1) (two_lt hx).2
  obtain rfl : z = z' := by rw [hx] at hz'; simpa using hz'
  obtain ⟨az, cz, rfl, _, _⟩ := hK'.shape
  obtain ⟨a', c', hv'⟩ : ∃ a' c', v = .slice a' vs.length c' := by obtain ⟨a', c', b', o', h, _⟩ := hv.pick; exact ⟨a', c', h⟩
  subst hv'
  unfold maxLen at hc
  have hlen : e.ks.length = 2 := by rw [hx]; rfl
  rw [h0, hlen]
  simp only [Nat.zero_mul, Nat.one_mul, Nat.add_zero, Nat.add_assoc, Nat.reduceAdd] at c0 c1 c2 c3 c4 c5 c6 d0 d1 d2 d3 d4 d5 d6
  obtain ⟨hr0, _, hS⟩ := hB
  clear hk hw ha hL hx hx' hz' h0 hlen hl hG hg hg' hr0
  have hEx : ∀ (W : World), Below w.heap.size w W → Calls Try.prog 48 #[(.agg #[.int .i64 x.k, .int .i64 x.n, .int .i64 x.v.k, .int .i64 x.v.n, .string x.v.s, .string x.p, (.slice ax x.ks.length cx)]), .slice a' vs.length c'] W fun q w' => q = .returned (.agg #[.int .i64 rx.k, .int .i64 rx.n, .string rx.s]) ∧ Below W.heap.size W w' :=
    fun W hW => hI m _ _ g d _ vs _ _ hxw (hK.below hW) (hv.below hW) hrx
  have hEz : ∀ (W : World), Below w.heap.size w W → Calls Try.prog 48 #[(.agg #[.int .i64 z.k, .int .i64 z.n, .int .i64 z.v.k, .int .i64 z.v.n, .string z.v.s, .string z.p, (.slice az z.ks.length cz)]), .slice a' vs.length c'] W fun q w' => q = .returned (.agg #[.int .i64 rz.k, .int .i64 rz.n, .string rz.s]) ∧ Below W.heap.size W w' :=
    fun W hW => hI m _ _ g' d _ vs _ _ hzw (hK'.below hW) (hv.below hW) hrz
  clear hI hK hK' hv hrx hrz hxw hzw
  go_enter Try.func48, Try.ntmps48
  go_wp2_with fail
  go_region_held3 (fun w' => w'.cell? ⟨w.heap.size, 5, none⟩ = some (.string e.p) ∧ w'.cell? ⟨w.heap.size, 6, none⟩ = some (.slice (some ⟨b, o, none⟩) 2 c) ∧ w'.cell? ⟨b, o, none⟩ = some (.int .i64 x.k) ∧ w'.cell? ⟨b, o + 1, none⟩ = some (.int .i64 x.n) ∧ w'.cell? ⟨b, o + 2, none⟩ = some (.int .i64 x.v.k) ∧ w'.cell? ⟨b, o + 3, none⟩ = some (.int .i64 x.v.n) ∧ w'.cell? ⟨b, o + 4, none⟩ = some (.string x.v.s) ∧ w'.cell? ⟨b, o + 5, none⟩ = some (.string x.p) ∧ w'.cell? ⟨b, o + 6, none⟩ = some (.slice ax x.ks.length cx) ∧ w'.cell? ⟨b, o + 7, none⟩ = some (.int .i64 z.k) ∧ w'.cell? ⟨b, o + 8, none⟩ = some (.int .i64 z.n) ∧ w'.cell? ⟨b, o + 9, none⟩ = some (.int .i64 z.v.k) ∧ w'.cell? ⟨b, o + 10, none⟩ = some (.int .i64 z.v.n) ∧ w'.cell? ⟨b, o + 11, none⟩ = some (.string z.v.s) ∧ w'.cell? ⟨b, o + 12, none⟩ = some (.string z.p) ∧ w'.cell? ⟨b, o + 13, none⟩ = some (.slice az z.ks.length cz)) (refine ⟨?_, ?_, ?_, ?_, ?_, ?_, ?_, ?_, ?_, ?_, ?_, ?_, ?_, ?_, ?_, ?_⟩ <;> first | (go_simp; done) | (exact cell_later (by assumption) (by go_simp))) (first | (go_at_call 69; refine Calls.mono (hS _) ?_; rintro y w3 ⟨rfl, hb3⟩; have hz3 := hb3.size; (try simp at hz3); have qa3 : w3.cell? ⟨w.heap.size + 1, 0, none⟩ = some (.int .i64 0) := cell_later hb3 (by go_simp); have qb3 : w3.cell? ⟨w.heap.size + 1, 1, none⟩ = some (.int .i64 0) := cell_later hb3 (by go_simp); have qc3 : w3.cell? ⟨w.heap.size + 1, 2, none⟩ = some (.string ⟨#[]⟩) := cell_later hb3 (by go_simp); have qf3 := (bcell hb3).2; have hy3 : w.heap.size + 1 < w3.heap.size := (by omega)) | (go_at_call 48; (first | (with_reducible refine Calls.mono (hEx _ ?hb) ?_) | (with_reducible refine Calls.mono (hEz _ ?hb) ?_)); (case hb => repeat (first | (with_reducible exact Below.refl _ _) | (with_reducible refine Below.drew ?_) | (with_reducible refine Below.alloc ?_ ?hh _; case hh => first | (simp; done) | (simp; omega) | omega) | (with_reducible refine Below.setCell ?_ ?hh _; case hh => first | (simp; done) | (simp; omega) | omega) | refine bstep (by assumption) (by first | (simp; done) | (simp; omega) | omega) ?_)); rintro y w1 ⟨rfl, hb1⟩; have hz1 := hb1.size; (try simp at hz1); have qa1 : w1.cell? ⟨w.heap.size + 1, 0, none⟩ = some (.int .i64 0) := cell_later hb1 (by go_simp); have qb1 : w1.cell? ⟨w.heap.size + 1, 1, none⟩ = some (.int .i64 0) := cell_later hb1 (by go_simp); have qc1 : w1.cell? ⟨w.heap.size + 1, 2, none⟩ = some (.string ⟨#[]⟩) := cell_later hb1 (by go_simp); have qf1 := (bcell hb1).2; have hy1 : w.heap.size + 1 < w1.heap.size := (by omega)))
  clear hEx hEz hS
  go_wp2
  refine bodyPost_ret (v := .agg #[.int .i64 r.k, .int .i64 r.n, .string r.s]) (by simp [results, Try.results48, go_sem, *]) rfl ⟨rfl, ?_⟩
  repeat (first | (with_reducible exact Below.refl _ _) | (with_reducible refine Below.drew ?_) | (with_reducible refine Below.alloc ?_ ?hh _; case hh => first | (simp; done) | (simp; omega) | omega) | (with_reducible refine Below.setCell ?_ ?hh _; case hh => first | (simp; done) | (simp; omega) | omega) | refine bstep (by assumption) (by first | (simp; done) | (simp; omega) | omega) ?_)
theorem l03Eval_step {f : Nat} (hI : EvS f) : EvS (f + 1) := by
  intro m e u F d v vs r w hw hk hv hr
  rcases hr with ⟨h0, hn, rfl⟩ | ⟨h0, rfl⟩ | ⟨h0, x, z, rx, rz, hx, hrx, hrz, hB⟩ | ⟨h0, x, rx, hx, hrx, rfl⟩ | ⟨h0, x, rx, hx, hrx, rfl⟩
  · exact l03Eval_0 hw hk hv h0 hn
  · exact l03Eval_1 hw hk hv h0
  · exact l03Eval_2 hI hw hk hv h0 hx hrx hrz hB
  · exact l03Eval_3 hI hw hk hv h0 hx hrx
  · exact l03Eval_4 hI hw hk hv h0 hx hrx
theorem l03Eval_any : ∀ f, EvS f
  | 0 => l03Eval_zero
  | f + 1 => l03Eval_step (l03Eval_any f)
set_option maxHeartbeats 1600000 in
set_option maxRecDepth 100000 in
/-- spec.Eval of an expression that is not right. -/
theorem specEval_no {e : E7} {u : Value} {F : List Nat} {d : Nat} {v : Value} {vs : List V3} {w : World} (hw : e.wf) (hk : KidsIs w d u e.ks F) (hv : RowIs w v vs) (h : okE 13 e = false) :
    Calls Try.prog 17 #[(.agg #[.int .i64 e.k, .int .i64 e.n, .int .i64 e.v.k, .int .i64 e.v.n, .string e.v.s, .string e.p, u]), v] w fun y w' => y = .returned (.agg #[.int .i64 0, .int .i64 0, .string ⟨#[]⟩]) ∧ Below w.heap.size w w' := by
  obtain ⟨a, c, rfl, _, _⟩ := hk.shape
  obtain ⟨a', c', hv'⟩ : ∃ a' c', v = .slice a' vs.length c' := by obtain ⟨a', c', b', o', h, _⟩ := hv.pick; exact ⟨a', c', h⟩
  subst hv'
  have hO : ∀ W, Below w.heap.size w W → Calls Try.prog 12 #[(.agg #[.int .i64 e.k, .int .i64 e.n, .int .i64 e.v.k, .int .i64 e.v.n, .string e.v.s, .string e.p, (.slice a e.ks.length c)])] W fun x w' => x = .returned (.bool false) ∧ Below W.heap.size W w' := fun W hW => by
    rw [← h]; exact specExpOk_any e _ F d W hw (hk.below hW)
  clear hk hv hw h
  go_enter Try.func17, Try.ntmps17
  go_wp2_with fail
  refine Calls.mono (hO _ ?hb) ?_
  case hb => repeat (first | (with_reducible exact Below.refl _ _) | (with_reducible refine Below.drew ?_) | (with_reducible refine Below.alloc ?_ ?hh _; case hh => first | (simp; done) | (simp; omega) | omega) | (with_reducible refine Below.setCell ?_ ?hh _; case hh => first | (simp; done) | (simp; omega) | omega) | refine bstep (by assumption) (by first | (simp; done) | (simp; omega) | omega) ?_)
  rintro y w2 ⟨rfl, hb2⟩
  have hz2 := hb2.size
  simp at hz2
  have bel2 : Below w.heap.size w w2 := by repeat (first | (with_reducible exact Below.refl _ _) | (with_reducible refine Below.drew ?_) | (with_reducible refine Below.alloc ?_ ?hh _; case hh => first | (simp; done) | (simp; omega) | omega) | (with_reducible refine Below.setCell ?_ ?hh _; case hh => first | (simp; done) | (simp; omega) | omega) | refine bstep (by assumption) (by first | (simp; done) | (simp; omega) | omega) ?_)
  have r20 : w2.cell? ⟨w.heap.size + 1, 0, none⟩ = some (.int .i64 0) := cell_later hb2 (by go_simp)
  have r21 : w2.cell? ⟨w.heap.size + 1, 1, none⟩ = some (.int .i64 0) := cell_later hb2 (by go_simp)
  have r22 : w2.cell? ⟨w.heap.size + 1, 2, none⟩ = some (.string ⟨#[]⟩) := cell_later hb2 (by go_simp)
  have f2 := (bcell hb2).2
  have hy2 : w.heap.size + 1 < w2.heap.size := by omega
  clear hO
  go_wp2
  refine bodyPost_ret (v := .agg #[.int .i64 0, .int .i64 0, .string ⟨#[]⟩]) (by simp [results, Try.results17, go_sem, *]) rfl ⟨rfl, ?_⟩
  repeat (first | (with_reducible exact Below.refl _ _) | (with_reducible refine Below.drew ?_) | (with_reducible refine Below.alloc ?_ ?hh _; case hh => first | (simp; done) | (simp; omega) | omega) | (with_reducible refine Below.setCell ?_ ?hh _; case hh => first | (simp; done) | (simp; omega) | omega) | refine bstep (by assumption) (by first | (simp; done) | (simp; omega) | omega) ?_)
set_option maxHeartbeats 1600000 in
set_option maxRecDepth 100000 in
/-- spec.Eval of an expression that is right. -/
theorem specEval_yes {m : Int} {e : E7} {u : Value} {F : List Nat} {d : Nat} {v : Value} {vs : List V3} {r : V3} {w : World} (hw : e.wf) (hk : KidsIs w d u e.ks F) (hv : RowIs w v vs) (h : okE 13 e = true) (hr : Res m 13 e vs r) :
    Calls Try.prog 17 #[(.agg #[.int .i64 e.k, .int .i64 e.n, .int .i64 e.v.k, .int .i64 e.v.n, .string e.v.s, .string e.p, u]), v] w fun y w' => y = .returned (.agg #[.int .i64 r.k, .int .i64 r.n, .string r.s]) ∧ Below w.heap.size w w' := by
  obtain ⟨a, c, rfl, _, _⟩ := hk.shape
  obtain ⟨a', c', hv'⟩ : ∃ a' c', v = .slice a' vs.length c' := by obtain ⟨a', c', b', o', h, _⟩ := hv.pick; exact ⟨a', c', h⟩
  subst hv'
  have hO : ∀ W, Below w.heap.size w W → Calls Try.prog 12 #[(.agg #[.int .i64 e.k, .int .i64 e.n, .int .i64 e.v.k, .int .i64 e.v.n, .string e.v.s, .string e.p, (.slice a e.ks.length c)])] W fun x w' => x = .returned (.bool true) ∧ Below W.heap.size W w' := fun W hW => by
    rw [← h]; exact specExpOk_any e _ F d W hw (hk.below hW)
  have hE : ∀ W, Below w.heap.size w W → Calls Try.prog 48 #[(.agg #[.int .i64 e.k, .int .i64 e.n, .int .i64 e.v.k, .int .i64 e.v.n, .string e.v.s, .string e.p, (.slice a e.ks.length c)]), .slice a' vs.length c'] W fun q w' => q = .returned (.agg #[.int .i64 r.k, .int .i64 r.n, .string r.s]) ∧ Below W.heap.size W w' :=
    fun W hW => l03Eval_any 13 m _ _ F d _ vs _ _ hw (hk.below hW) (hv.below hW) hr
  clear hk hv hw h hr
  go_enter Try.func17, Try.ntmps17
  go_wp2_with fail
  refine Calls.mono (hO _ ?hb) ?_
  case hb => repeat (first | (with_reducible exact Below.refl _ _) | (with_reducible refine Below.drew ?_) | (with_reducible refine Below.alloc ?_ ?hh _; case hh => first | (simp; done) | (simp; omega) | omega) | (with_reducible refine Below.setCell ?_ ?hh _; case hh => first | (simp; done) | (simp; omega) | omega) | refine bstep (by assumption) (by first | (simp; done) | (simp; omega) | omega) ?_)
  rintro y w2 ⟨rfl, hb2⟩
  have hz2 := hb2.size
  simp at hz2
  have bel2 : Below w.heap.size w w2 := by repeat (first | (with_reducible exact Below.refl _ _) | (with_reducible refine Below.drew ?_) | (with_reducible refine Below.alloc ?_ ?hh _; case hh => first | (simp; done) | (simp; omega) | omega) | (with_reducible refine Below.setCell ?_ ?hh _; case hh => first | (simp; done) | (simp; omega) | omega) | refine bstep (by assumption) (by first | (simp; done) | (simp; omega) | omega) ?_)
  clear hO
  have r20 : w2.cell? ⟨w.heap.size + 1, 0, none⟩ = some (.int .i64 0) := cell_later hb2 (by go_simp)
  have r21 : w2.cell? ⟨w.heap.size + 1, 1, none⟩ = some (.int .i64 0) := cell_later hb2 (by go_simp)
  have r22 : w2.cell? ⟨w.heap.size + 1, 2, none⟩ = some (.string ⟨#[]⟩) := cell_later hb2 (by go_simp)
  have f2 := (bcell hb2).2
  have hy2 : w.heap.size + 1 < w2.heap.size := by omega
  have q0 : w2.cell? ⟨w.heap.size, 0, none⟩ = some (.int .i64 e.k) := cell_later hb2 (by go_simp)
  have q1 : w2.cell? ⟨w.heap.size, 1, none⟩ = some (.int .i64 e.n) := cell_later hb2 (by go_simp)
  have q2 : w2.cell? ⟨w.heap.size, 2, none⟩ = some (.int .i64 e.v.k) := cell_later hb2 (by go_simp)
  have q3 : w2.cell? ⟨w.heap.size, 3, none⟩ = some (.int .i64 e.v.n) := cell_later hb2 (by go_simp)
  have q4 : w2.cell? ⟨w.heap.size, 4, none⟩ = some (.string e.v.s) := cell_later hb2 (by go_simp)
  have q5 : w2.cell? ⟨w.heap.size, 5, none⟩ = some (.string e.p) := cell_later hb2 (by go_simp)
  have q6 : w2.cell? ⟨w.heap.size, 6, none⟩ = some (.slice a e.ks.length c) := cell_later hb2 (by go_simp)
  go_wp2_with fail
  refine Calls.mono (hE _ bel2) ?_
  rintro y w3 ⟨rfl, hb3⟩
  have hz3 := hb3.size
  have bel3 : Below w.heap.size w w3 := by repeat (first | (with_reducible exact Below.refl _ _) | (with_reducible refine Below.drew ?_) | (with_reducible refine Below.alloc ?_ ?hh _; case hh => first | (simp; done) | (simp; omega) | omega) | (with_reducible refine Below.setCell ?_ ?hh _; case hh => first | (simp; done) | (simp; omega) | omega) | refine bstep (by assumption) (by first | (simp; done) | (simp; omega) | omega) ?_)
  have r30 : w3.cell? ⟨w.heap.size + 1, 0, none⟩ = some (.int .i64 0) := cell_later hb3 (by go_simp)
  have r31 : w3.cell? ⟨w.heap.size + 1, 1, none⟩ = some (.int .i64 0) := cell_later hb3 (by go_simp)
  have r32 : w3.cell? ⟨w.heap.size + 1, 2, none⟩ = some (.string ⟨#[]⟩) := cell_later hb3 (by go_simp)
  have f3 := (bcell hb3).2
  have hy3 : w.heap.size + 1 < w3.heap.size := by omega
  clear hE hb2 hb3 q0 q1 q2 q3 q4 q5 q6
  go_wp2
  refine bodyPost_ret (v := .agg #[.int .i64 r.k, .int .i64 r.n, .string r.s]) (by simp [results, Try.results17, go_sem, *]) rfl ⟨rfl, ?_⟩
  repeat (first | (with_reducible exact Below.refl _ _) | (with_reducible refine Below.drew ?_) | (with_reducible refine Below.alloc ?_ ?hh _; case hh => first | (simp; done) | (simp; omega) | omega) | (with_reducible refine Below.setCell ?_ ?hh _; case hh => first | (simp; done) | (simp; omega) | omega) | refine bstep (by assumption) (by first | (simp; done) | (simp; omega) | omega) ?_)
end Go.Proofs.Ytbhojlchibmfpaa
