/- Own text. The closures that impl.reckoningOf makes: what each answers of a row, wherever the blocks that it was made of are as they were. -/
import Derived.Test.YtbhojlchibmfpaaEvR
import Derived.Test.YtbhojlchibmfpaaRowC
namespace Go.Proofs.Ytbhojlchibmfpaa
open Go.RowKit
set_option linter.unusedVariables false
/-- a function that is entered when it is called. -/
def Ent (fn : Nat) : Prop := ∀ (args : Array Value) (w : World), Sem.run Try.prog (callFunc fn args) w = .ok (.enter fn args) w
theorem ent_of {f : Nat} {fn : Func} (hf : Try.prog.funcs[f]? = some fn) (hn : (fn.name == "runtime.NumGoroutine") = false) (hb : fn.body.isNone = false) : Ent f := fun args w => by
  have h1 : ¬ fn.name = "runtime.NumGoroutine" := by simpa using hn
  have h2 : ¬ fn.body = none := by intro h; rw [h] at hb; cases hb
  simp [callFunc, go_sem, hf, h1, h2]
theorem ent1 : Ent 72 := ent_of Try.func72 (by kernel_rfl) (by kernel_rfl)
theorem ent2 : Ent 73 := ent_of Try.func73 (by kernel_rfl) (by kernel_rfl)
theorem ent3 : Ent 74 := ent_of Try.func74 (by kernel_rfl) (by kernel_rfl)
theorem ent4 : Ent 76 := ent_of Try.func76 (by kernel_rfl) (by kernel_rfl)
theorem ent5 : Ent 78 := ent_of Try.func78 (by kernel_rfl) (by kernel_rfl)
/-- the closure c answers the value of e of every row, in every world in which the blocks D are as they are in w. -/
def Rk (m : Int) (D : Nat → Prop) (w : World) (c : Value) (f : Nat) (e : E7) : Prop := ∃ (fn : Nat) (cap : Array Value), c = .func (.func fn) #[] cap ∧ Ent fn ∧
  ∀ (W : World) (v : Value) (vs : List V3) (r : V3), (∀ b, D b → W.heap[b]? = w.heap[b]?) → W.cell? ⟨0, 0, none⟩ = some (.int .i64 m) → RowIs W v vs → Res m f e vs r →
    Calls Try.prog fn (#[v] ++ cap) W fun q w' => q = .returned (.agg #[.int .i64 r.k, .int .i64 r.n, .string r.s]) ∧ Below W.heap.size W w'
theorem Rk.keep {m : Int} {D D' : Nat → Prop} {w w' : World} {c : Value} {f : Nat} {e : E7} (h : Rk m D w c f e) (hD : ∀ b, D b → D' b) (hw : ∀ b, D b → w'.heap[b]? = w.heap[b]?) : Rk m D' w' c f e := by
  obtain ⟨fn, cap, rfl, he, h⟩ := h
  exact ⟨fn, cap, rfl, he, fun W v vs r hW => h W v vs r fun b hb => (hW b (hD b hb)).trans (hw b hb)⟩
set_option maxHeartbeats 1600000 in
set_option maxRecDepth 100000 in
theorem clo1_any {e : E7} {u v : Value} {vs : List V3} {w : World} {E : Nat} {t : TypeId} {fr : Nat × Nat} (hE : w.heap[E]? = some (.cells #[.int .i64 e.k, .int .i64 e.n, .int .i64 e.v.k, .int .i64 e.v.n, .string e.v.s, .string e.p, u] t fr)) (hv : RowIs w v vs) (hn : 0 ≤ e.n) :
    Calls Try.prog 72 #[v, .pointer (some ⟨E, 0, none⟩)] w fun x w' => x = .returned (.agg #[.int .i64 (vs.getD e.n.toNat zeroR).k, .int .i64 (vs.getD e.n.toNat zeroR).n, .string (vs.getD e.n.toNat zeroR).s]) ∧ Below w.heap.size w w' := by
  obtain ⟨a', c', b', o', rfl, hl', hc', ha'⟩ := hv.pick
  unfold maxLen at hc'
  have q1 : w.cell? ⟨E, 1, none⟩ = some (.int .i64 e.n) := by simp [World.cell?, hE]
  have hElt : E < w.heap.size := World.block_lt_of_cell? _ _ q1
  clear hv hE
  by_cases hlt : e.n.toNat < vs.length
  · obtain ⟨rfl, hblt, hL⟩ := ha' _ hlt
    obtain ⟨N, hN⟩ : ∃ N : Nat, e.n = N := ⟨e.n.toNat, by omega⟩
    have hNt : e.n.toNat = N := by omega
    rw [hNt] at hlt ⊢
    obtain ⟨x, hx, c0, c1, c2, hbr⟩ := hL.at hblt (Below.refl _ _) hlt
    rw [List.getD_eq_getElem?_getD, hx]
    rw [hN] at q1
    have hlt2 : (N : Int) < vs.length := by omega
    simp only [Option.getD_some]
    clear ha' hL hx
    go_enter Try.func72, Try.ntmps72
    go_wp2
    go_returns
    exact ⟨rfl, by repeat (first | (with_reducible exact Below.refl _ _) | (with_reducible refine Below.drew ?_) | (with_reducible refine Below.alloc ?_ ?hh _; case hh => first | (simp; done) | (simp; omega) | omega) | (with_reducible refine Below.setCell ?_ ?hh _; case hh => first | (simp; done) | (simp; omega) | omega) | refine bstep (by assumption) (by first | (simp; done) | (simp; omega) | omega) ?_)⟩
  · rw [List.getD_eq_getElem?_getD, List.getElem?_eq_none (by omega)]
    have hge : (vs.length : Int) ≤ e.n := by omega
    clear ha'
    go_enter Try.func72, Try.ntmps72
    go_wp2
    go_returns
    exact ⟨rfl, by repeat (first | (with_reducible exact Below.refl _ _) | (with_reducible refine Below.drew ?_) | (with_reducible refine Below.alloc ?_ ?hh _; case hh => first | (simp; done) | (simp; omega) | omega) | (with_reducible refine Below.setCell ?_ ?hh _; case hh => first | (simp; done) | (simp; omega) | omega) | refine bstep (by assumption) (by first | (simp; done) | (simp; omega) | omega) ?_)⟩
set_option maxHeartbeats 1600000 in
set_option maxRecDepth 100000 in
theorem clo2_any {e : E7} {u v : Value} {w : World} {E : Nat} {t : TypeId} {fr : Nat × Nat} (hE : w.heap[E]? = some (.cells #[.int .i64 e.k, .int .i64 e.n, .int .i64 e.v.k, .int .i64 e.v.n, .string e.v.s, .string e.p, u] t fr)) :
    Calls Try.prog 73 #[v, .pointer (some ⟨E, 0, none⟩)] w fun x w' => x = .returned (.agg #[.int .i64 e.v.k, .int .i64 e.v.n, .string e.v.s]) ∧ Below w.heap.size w w' := by
  have q2 : w.cell? ⟨E, 2, none⟩ = some (.int .i64 e.v.k) := by simp [World.cell?, hE]
  have q3 : w.cell? ⟨E, 3, none⟩ = some (.int .i64 e.v.n) := by simp [World.cell?, hE]
  have q4 : w.cell? ⟨E, 4, none⟩ = some (.string e.v.s) := by simp [World.cell?, hE]
  have hElt : E < w.heap.size := World.block_lt_of_cell? _ _ q2
  clear hE
  go_enter Try.func73, Try.ntmps73
  go_wp2
  go_returns
  exact ⟨rfl, by repeat (first | (with_reducible exact Below.refl _ _) | (with_reducible refine Below.drew ?_) | (with_reducible refine Below.alloc ?_ ?hh _; case hh => first | (simp; done) | (simp; omega) | omega) | (with_reducible refine Below.setCell ?_ ?hh _; case hh => first | (simp; done) | (simp; omega) | omega) | refine bstep (by assumption) (by first | (simp; done) | (simp; omega) | omega) ?_)⟩
/-- what a kid's closure answers. -/
def Ans (fn : Nat) (cap : Array Value) (v : Value) (w : World) (r : V3) : Prop := ∀ W, Below w.heap.size w W → Calls Try.prog fn (#[v] ++ cap) W fun q w' => q = .returned (.agg #[.int .i64 r.k, .int .i64 r.n, .string r.s]) ∧ Below W.heap.size W w'
set_option maxHeartbeats 1600000 in
set_option maxRecDepth 100000 in
theorem clo4_any {a' : Option Addr} {n' c' : Nat} {r : V3} {w : World} {K kb c : Nat} {fn : Nat} {cap : Array Value} (hc : c ≤ maxLen) (qK : w.cell? ⟨K, 0, none⟩ = some (.slice (some ⟨kb, 0, none⟩) 1 c)) (q0 : w.cell? ⟨kb, 0, none⟩ = some (.func (.func fn) #[] cap)) (hN : Ent fn) (h0 : Ans fn cap (.slice a' n' c') w r) :
    Calls Try.prog 76 #[.slice a' n' c', .pointer (some ⟨K, 0, none⟩)] w fun x w' => x = .returned (.agg #[.int .i64 (notK r.k r.n), .int .i64 (notN r.k r.n), .string ⟨#[]⟩]) ∧ Below w.heap.size w w' := by
  have hK : K < w.heap.size := World.block_lt_of_cell? _ _ qK
  have hkb : kb < w.heap.size := World.block_lt_of_cell? _ _ q0
  unfold maxLen at hc
  unfold Ans at h0
  go_enter Try.func76, Try.ntmps76
  go_wp2_with fail
  rw [hN, Oper.upon_enter]
  refine Calls.mono (h0 _ ?hb) ?_
  case hb => repeat (first | (with_reducible exact Below.refl _ _) | (with_reducible refine Below.drew ?_) | (with_reducible refine Below.alloc ?_ ?hh _; case hh => first | (simp; done) | (simp; omega) | omega) | (with_reducible refine Below.setCell ?_ ?hh _; case hh => first | (simp; done) | (simp; omega) | omega) | refine bstep (by assumption) (by first | (simp; done) | (simp; omega) | omega) ?_)
  rintro y w2 ⟨rfl, hb2⟩
  have hz2 := hb2.size
  simp at hz2
  have bel2 : Below w.heap.size w w2 := by repeat (first | (with_reducible exact Below.refl _ _) | (with_reducible refine Below.drew ?_) | (with_reducible refine Below.alloc ?_ ?hh _; case hh => first | (simp; done) | (simp; omega) | omega) | (with_reducible refine Below.setCell ?_ ?hh _; case hh => first | (simp; done) | (simp; omega) | omega) | refine bstep (by assumption) (by first | (simp; done) | (simp; omega) | omega) ?_)
  have r0 : w2.cell? ⟨w.heap.size, 0, none⟩ = some (.int .i64 0) := cell_later hb2 (by go_simp)
  have r1 : w2.cell? ⟨w.heap.size, 1, none⟩ = some (.int .i64 0) := cell_later hb2 (by go_simp)
  have r2 : w2.cell? ⟨w.heap.size, 2, none⟩ = some (.string ⟨#[]⟩) := cell_later hb2 (by go_simp)
  have f2 := (bcell hb2).2
  have hy2 : w.heap.size < w2.heap.size := by omega
  clear h0 hb2 hN qK q0
  go_wp2_with fail
  refine Calls.mono (implNot_any _ _ _ _) ?_
  rintro y w3 ⟨rfl, hb3⟩
  have hz3 := hb3.size
  have bel3 : Below w.heap.size w w3 := by repeat (first | (with_reducible exact Below.refl _ _) | (with_reducible refine Below.drew ?_) | (with_reducible refine Below.alloc ?_ ?hh _; case hh => first | (simp; done) | (simp; omega) | omega) | (with_reducible refine Below.setCell ?_ ?hh _; case hh => first | (simp; done) | (simp; omega) | omega) | refine bstep (by assumption) (by first | (simp; done) | (simp; omega) | omega) ?_)
  have s0 : w3.cell? ⟨w.heap.size, 0, none⟩ = some (.int .i64 0) := cell_later hb3 (by go_simp)
  have s1 : w3.cell? ⟨w.heap.size, 1, none⟩ = some (.int .i64 0) := cell_later hb3 (by go_simp)
  have s2 : w3.cell? ⟨w.heap.size, 2, none⟩ = some (.string ⟨#[]⟩) := cell_later hb3 (by go_simp)
  have f3 := (bcell hb3).2
  have hy3 : w.heap.size < w3.heap.size := by omega
  clear hb3 r0 r1 r2
  go_wp2
  refine bodyPost_ret (v := .agg #[.int .i64 (notK r.k r.n), .int .i64 (notN r.k r.n), .string ⟨#[]⟩]) (by simp [results, Try.results76, go_sem, *]) rfl ⟨rfl, ?_⟩
  repeat (first | (with_reducible exact Below.refl _ _) | (with_reducible refine Below.drew ?_) | (with_reducible refine Below.alloc ?_ ?hh _; case hh => first | (simp; done) | (simp; omega) | omega) | (with_reducible refine Below.setCell ?_ ?hh _; case hh => first | (simp; done) | (simp; omega) | omega) | refine bstep (by assumption) (by first | (simp; done) | (simp; omega) | omega) ?_)
set_option maxHeartbeats 1600000 in
set_option maxRecDepth 100000 in
theorem clo5_any {a' : Option Addr} {n' c' : Nat} {r : V3} {w : World} {K kb c : Nat} {fn : Nat} {cap : Array Value} (hc : c ≤ maxLen) (qK : w.cell? ⟨K, 0, none⟩ = some (.slice (some ⟨kb, 0, none⟩) 1 c)) (q0 : w.cell? ⟨kb, 0, none⟩ = some (.func (.func fn) #[] cap)) (hN : Ent fn) (h0 : Ans fn cap (.slice a' n' c') w r) :
    Calls Try.prog 78 #[.slice a' n' c', .pointer (some ⟨K, 0, none⟩)] w fun x w' => x = .returned (.agg #[.int .i64 2, .int .i64 (nulN r.k), .string ⟨#[]⟩]) ∧ Below w.heap.size w w' := by
  have hK : K < w.heap.size := World.block_lt_of_cell? _ _ qK
  have hkb : kb < w.heap.size := World.block_lt_of_cell? _ _ q0
  unfold maxLen at hc
  unfold Ans at h0
  go_enter Try.func78, Try.ntmps78
  go_wp2_with fail
  rw [hN, Oper.upon_enter]
  refine Calls.mono (h0 _ ?hb) ?_
  case hb => repeat (first | (with_reducible exact Below.refl _ _) | (with_reducible refine Below.drew ?_) | (with_reducible refine Below.alloc ?_ ?hh _; case hh => first | (simp; done) | (simp; omega) | omega) | (with_reducible refine Below.setCell ?_ ?hh _; case hh => first | (simp; done) | (simp; omega) | omega) | refine bstep (by assumption) (by first | (simp; done) | (simp; omega) | omega) ?_)
  rintro y w2 ⟨rfl, hb2⟩
  have hz2 := hb2.size
  simp at hz2
  have bel2 : Below w.heap.size w w2 := by repeat (first | (with_reducible exact Below.refl _ _) | (with_reducible refine Below.drew ?_) | (with_reducible refine Below.alloc ?_ ?hh _; case hh => first | (simp; done) | (simp; omega) | omega) | (with_reducible refine Below.setCell ?_ ?hh _; case hh => first | (simp; done) | (simp; omega) | omega) | refine bstep (by assumption) (by first | (simp; done) | (simp; omega) | omega) ?_)
  have r0 : w2.cell? ⟨w.heap.size, 0, none⟩ = some (.int .i64 0) := cell_later hb2 (by go_simp)
  have r1 : w2.cell? ⟨w.heap.size, 1, none⟩ = some (.int .i64 0) := cell_later hb2 (by go_simp)
  have r2 : w2.cell? ⟨w.heap.size, 2, none⟩ = some (.string ⟨#[]⟩) := cell_later hb2 (by go_simp)
  have f2 := (bcell hb2).2
  have hy2 : w.heap.size < w2.heap.size := by omega
  clear h0 hb2 hN qK q0
  go_wp2_with fail
  refine Calls.mono (implNul_any _ _ _ _) ?_
  rintro y w3 ⟨rfl, hb3⟩
  have hz3 := hb3.size
  have bel3 : Below w.heap.size w w3 := by repeat (first | (with_reducible exact Below.refl _ _) | (with_reducible refine Below.drew ?_) | (with_reducible refine Below.alloc ?_ ?hh _; case hh => first | (simp; done) | (simp; omega) | omega) | (with_reducible refine Below.setCell ?_ ?hh _; case hh => first | (simp; done) | (simp; omega) | omega) | refine bstep (by assumption) (by first | (simp; done) | (simp; omega) | omega) ?_)
  have s0 : w3.cell? ⟨w.heap.size, 0, none⟩ = some (.int .i64 0) := cell_later hb3 (by go_simp)
  have s1 : w3.cell? ⟨w.heap.size, 1, none⟩ = some (.int .i64 0) := cell_later hb3 (by go_simp)
  have s2 : w3.cell? ⟨w.heap.size, 2, none⟩ = some (.string ⟨#[]⟩) := cell_later hb3 (by go_simp)
  have f3 := (bcell hb3).2
  have hy3 : w.heap.size < w3.heap.size := by omega
  clear hb3 r0 r1 r2
  go_wp2
  refine bodyPost_ret (v := .agg #[.int .i64 2, .int .i64 (nulN r.k), .string ⟨#[]⟩]) (by simp [results, Try.results78, go_sem, *]) rfl ⟨rfl, ?_⟩
  repeat (first | (with_reducible exact Below.refl _ _) | (with_reducible refine Below.drew ?_) | (with_reducible refine Below.alloc ?_ ?hh _; case hh => first | (simp; done) | (simp; omega) | omega) | (with_reducible refine Below.setCell ?_ ?hh _; case hh => first | (simp; done) | (simp; omega) | omega) | refine bstep (by assumption) (by first | (simp; done) | (simp; omega) | omega) ?_)
set_option maxHeartbeats 4000000 in
set_option maxRecDepth 100000 in
theorem clo3_any {m : Int} {p : ByteArray} {a' : Option Addr} {n' c' : Nat} {rx rz r : V3} {w : World} {E K kb c : Nat} {fn fn' : Nat} {cap cap' : Array Value} (hc : c ≤ maxLen) (qm : w.cell? ⟨0, 0, none⟩ = some (.int .i64 m)) (qE : w.cell? ⟨E, 5, none⟩ = some (.string p)) (qK : w.cell? ⟨K, 0, none⟩ = some (.slice (some ⟨kb, 0, none⟩) 2 c)) (q0 : w.cell? ⟨kb, 0, none⟩ = some (.func (.func fn) #[] cap)) (q1 : w.cell? ⟨kb, 1, none⟩ = some (.func (.func fn') #[] cap')) (hN : Ent fn) (hN' : Ent fn') (h0 : Ans fn cap (.slice a' n' c') w rx) (h1 : Ans fn' cap' (.slice a' n' c') w rz) (hB : RB m p rx rz r) :
    Calls Try.prog 74 #[.slice a' n' c', .pointer (some ⟨E, 0, none⟩), .pointer (some ⟨K, 0, none⟩)] w fun x w' => x = .returned (.agg #[.int .i64 r.k, .int .i64 r.n, .string r.s]) ∧ Below w.heap.size w w' := by
  have hE : E < w.heap.size := World.block_lt_of_cell? _ _ qE
  have hK : K < w.heap.size := World.block_lt_of_cell? _ _ qK
  have hkb : kb < w.heap.size := World.block_lt_of_cell? _ _ q0
  have h00 : 0 < w.heap.size := World.block_lt_of_cell? _ _ qm
  unfold maxLen at hc
  unfold Ans at h0 h1
  unfold Ent at hN hN'
  obtain ⟨-, hI, -⟩ := hB
  go_enter Try.func74, Try.ntmps74
  go_wp2_with fail
  go_region_held3 (fun w' => w'.cell? ⟨E, 5, none⟩ = some (.string p) ∧ w'.cell? ⟨K, 0, none⟩ = some (.slice (some ⟨kb, 0, none⟩) 2 c) ∧ w'.cell? ⟨kb, 0, none⟩ = some (.func (.func fn) #[] cap) ∧ w'.cell? ⟨kb, 1, none⟩ = some (.func (.func fn') #[] cap')) (refine ⟨?_, ?_, ?_, ?_⟩ <;> first | (go_simp; done) | (exact cell_later (by assumption) (by go_simp))) (first | (go_at_call 75; refine Calls.mono (hI _ (by go_simp)) ?_; rintro y w3 ⟨rfl, hb3⟩; have hz3 := hb3.size; (try simp at hz3); have qm3 : w3.cell? ⟨0, 0, none⟩ = some (.int .i64 m) := cell_later hb3 (by go_simp); have qa3 : w3.cell? ⟨w.heap.size, 0, none⟩ = some (.int .i64 0) := cell_later hb3 (by go_simp); have qb3 : w3.cell? ⟨w.heap.size, 1, none⟩ = some (.int .i64 0) := cell_later hb3 (by go_simp); have qc3 : w3.cell? ⟨w.heap.size, 2, none⟩ = some (.string ⟨#[]⟩) := cell_later hb3 (by go_simp); have qf3 := (bcell hb3).2; have hy3 : w.heap.size < w3.heap.size := (by omega)) | ((try rw [Oper.upon_enter]); (first | (with_reducible refine Calls.mono (h0 _ ?hb) ?_) | (with_reducible refine Calls.mono (h1 _ ?hb) ?_)); (case hb => repeat (first | (with_reducible exact Below.refl _ _) | (with_reducible refine Below.drew ?_) | (with_reducible refine Below.alloc ?_ ?hh _; case hh => first | (simp; done) | (simp; omega) | omega) | (with_reducible refine Below.setCell ?_ ?hh _; case hh => first | (simp; done) | (simp; omega) | omega) | refine bstep (by assumption) (by first | (simp; done) | (simp; omega) | omega) ?_)); rintro y w1 ⟨rfl, hb1⟩; have hz1 := hb1.size; (try simp at hz1); have qm1 : w1.cell? ⟨0, 0, none⟩ = some (.int .i64 m) := cell_later hb1 (by go_simp); have qa1 : w1.cell? ⟨w.heap.size, 0, none⟩ = some (.int .i64 0) := cell_later hb1 (by go_simp); have qb1 : w1.cell? ⟨w.heap.size, 1, none⟩ = some (.int .i64 0) := cell_later hb1 (by go_simp); have qc1 : w1.cell? ⟨w.heap.size, 2, none⟩ = some (.string ⟨#[]⟩) := cell_later hb1 (by go_simp); have qf1 := (bcell hb1).2; have hy1 : w.heap.size < w1.heap.size := (by omega)))
  clear h0 h1 hI hN hN'
  go_wp2
  refine bodyPost_ret (v := .agg #[.int .i64 r.k, .int .i64 r.n, .string r.s]) (by simp [results, Try.results74, go_sem, *]) rfl ⟨rfl, ?_⟩
  repeat (first | (with_reducible exact Below.refl _ _) | (with_reducible refine Below.drew ?_) | (with_reducible refine Below.alloc ?_ ?hh _; case hh => first | (simp; done) | (simp; omega) | omega) | (with_reducible refine Below.setCell ?_ ?hh _; case hh => first | (simp; done) | (simp; omega) | omega) | refine bstep (by assumption) (by first | (simp; done) | (simp; omega) | omega) ?_)
theorem lt_of_blk {w : World} {b : Nat} {x : Obj} (h : w.heap[b]? = some x) : b < w.heap.size := by
  rcases Nat.lt_or_ge b w.heap.size with h1 | h1
  · exact h1
  · rw [Array.getElem?_eq_none h1] at h; cases h
section
variable {m : Int} {D : Nat → Prop} {w : World} {e : E7} {f E K kb c : Nat} {u : Value} {t : TypeId} {fr : Nat × Nat} {cs : List Value}
theorem ans_of {fn : Nat} {cap : Array Value} {x : E7} {W : World} {v : Value} {vs : List V3} {r : V3} (hD : ∀ b, D b → b < w.heap.size)
    (h : ∀ (W : World) (v : Value) (vs : List V3) (r : V3), (∀ b, D b → W.heap[b]? = w.heap[b]?) → W.cell? ⟨0, 0, none⟩ = some (.int .i64 m) → RowIs W v vs → Res m f x vs r →
      Calls Try.prog fn (#[v] ++ cap) W fun q w' => q = .returned (.agg #[.int .i64 r.k, .int .i64 r.n, .string r.s]) ∧ Below W.heap.size W w')
    (hW : ∀ b, D b → W.heap[b]? = w.heap[b]?) (hm : W.cell? ⟨0, 0, none⟩ = some (.int .i64 m)) (hv : RowIs W v vs) (hr : Res m f x vs r) : Ans fn cap v W r := fun W' hb => by
  refine h W' v vs r (fun b hb' => ?_) ((hb.cell (p := ⟨0, 0, none⟩) (World.block_lt_of_cell? _ _ hm)).trans hm) (hv.below hb) hr
  have h1 := hW b hb'
  rw [Array.getElem?_eq_getElem (hD b hb')] at h1
  exact (hb.block b (lt_of_blk h1)).trans (hW b hb')
theorem row_shape {w : World} {v : Value} {vs : List V3} (hv : RowIs w v vs) : ∃ a c, v = .slice a vs.length c := by
  obtain ⟨a', c', b', o', h, _⟩ := hv.pick; exact ⟨a', c', h⟩
theorem rk_0 (hE : w.heap[E]? = some (.cells #[.int .i64 e.k, .int .i64 e.n, .int .i64 e.v.k, .int .i64 e.v.n, .string e.v.s, .string e.p, u] t fr)) (hDE : D E) (h0 : e.k = 0) : Rk m D w (.func (.func 72) #[] #[.pointer (some ⟨E, 0, none⟩)]) (f + 1) e := by
  refine ⟨_, _, rfl, ent1, fun W v vs r hW hm hv hr => ?_⟩
  rcases hr with ⟨_, hn, rfl⟩ | ⟨h, _⟩ | ⟨h, _⟩ | ⟨h, _⟩ | ⟨h, _⟩
  · exact clo1_any ((hW E hDE).trans hE) hv hn
  all_goals (exfalso; omega)
theorem rk_1 (hE : w.heap[E]? = some (.cells #[.int .i64 e.k, .int .i64 e.n, .int .i64 e.v.k, .int .i64 e.v.n, .string e.v.s, .string e.p, u] t fr)) (hDE : D E) (h0 : e.k = 1) : Rk m D w (.func (.func 73) #[] #[.pointer (some ⟨E, 0, none⟩)]) (f + 1) e := by
  refine ⟨_, _, rfl, ent2, fun W v vs r hW hm hv hr => ?_⟩
  rcases hr with ⟨h, _⟩ | ⟨h, rfl⟩ | ⟨h, _⟩ | ⟨h, _⟩ | ⟨h, _⟩
  · exfalso; omega
  · exact clo2_any ((hW E hDE).trans hE)
  all_goals (exfalso; omega)
/-- the closures of the kids, as they lie in the slice that reckoningOf holds. -/
structure KidsRk (m : Int) (D : Nat → Prop) (w : World) (K kb c f : Nat) (es : List E7) (cs : List Value) : Prop where
  hc : c ≤ maxLen
  lt : ∀ b, D b → b < w.heap.size
  dK : D K
  db : es ≠ [] → D kb
  qK : w.cell? ⟨K, 0, none⟩ = some (.slice (some ⟨kb, 0, none⟩) es.length c)
  len : cs.length = es.length
  at' : ∀ i x y, es[i]? = some x → cs[i]? = some y → w.cell? ⟨kb, i, none⟩ = some y ∧ Rk m D w y f x
theorem KidsRk.pick {es : List E7} (h : KidsRk m D w K kb c f es cs) {i : Nat} {x : E7} (hx : es[i]? = some x) {W : World} {v : Value} {vs : List V3} {r : V3}
    (hW : ∀ b, D b → W.heap[b]? = w.heap[b]?) (hm : W.cell? ⟨0, 0, none⟩ = some (.int .i64 m)) (hv : RowIs W v vs) (hr : Res m f x vs r) :
    ∃ fn cap, W.cell? ⟨K, 0, none⟩ = some (.slice (some ⟨kb, 0, none⟩) es.length c) ∧ W.cell? ⟨kb, i, none⟩ = some (.func (.func fn) #[] cap) ∧ Ent fn ∧ Ans fn cap v W r := by
  have hi : i < es.length := (List.getElem?_eq_some_iff.1 hx).1
  obtain ⟨hq, fn, cap, hy, hE, hC⟩ := h.at' i x (cs[i]'(by rw [h.len]; exact hi)) hx (by simp)
  rw [hy] at hq
  have hne : es ≠ [] := by rintro rfl; simp at hi
  exact ⟨fn, cap, (cell_blk (hW K h.dK)).trans h.qK, (cell_blk (hW kb (h.db hne))).trans hq, hE, ans_of h.lt hC hW hm hv hr⟩
theorem rk_2 (hE : w.heap[E]? = some (.cells #[.int .i64 e.k, .int .i64 e.n, .int .i64 e.v.k, .int .i64 e.v.n, .string e.v.s, .string e.p, u] t fr)) (hDE : D E) (hK : KidsRk m D w K kb c f e.ks cs) (h0 : e.k = 2) :
    Rk m D w (.func (.func 74) #[] #[.pointer (some ⟨E, 0, none⟩), .pointer (some ⟨K, 0, none⟩)]) (f + 1) e := by
  refine ⟨_, _, rfl, ent3, fun W v vs r hW hm hv hr => ?_⟩
  rcases hr with ⟨h, _⟩ | ⟨h, _⟩ | ⟨_, k0, k1, r0, r1, hk, hr0, hr1, hB⟩ | ⟨h, _⟩ | ⟨h, _⟩
  · exfalso; omega
  · exfalso; omega
  · obtain ⟨fn, cap, qK, q0, hN, hA⟩ := hK.pick (i := 0) (x := k0) (by rw [hk]; rfl) hW hm hv hr0
    obtain ⟨fn', cap', _, q1, hN', hA'⟩ := hK.pick (i := 1) (x := k1) (by rw [hk]; rfl) hW hm hv hr1
    obtain ⟨a', c', rfl⟩ := row_shape hv
    rw [hk] at qK
    exact clo3_any (E := E) (K := K) hK.hc hm (by simp [World.cell?, hW E hDE, hE]) qK q0 q1 hN hN' hA hA' hB
  all_goals (exfalso; omega)
theorem rk_3 (hK : KidsRk m D w K kb c f e.ks cs) (h0 : e.k = 3) :
    Rk m D w (.func (.func 76) #[] #[.pointer (some ⟨K, 0, none⟩)]) (f + 1) e := by
  refine ⟨_, _, rfl, ent4, fun W v vs r hW hm hv hr => ?_⟩
  rcases hr with ⟨h, _⟩ | ⟨h, _⟩ | ⟨h, _⟩ | ⟨_, k0, r0, hk, hr0, rfl⟩ | ⟨h, _⟩
  · exfalso; omega
  · exfalso; omega
  · exfalso; omega
  · obtain ⟨fn, cap, qK, q0, hN, hA⟩ := hK.pick (i := 0) (x := k0) (by rw [hk]; rfl) hW hm hv hr0
    obtain ⟨a', c', rfl⟩ := row_shape hv
    rw [hk] at qK
    exact clo4_any (K := K) hK.hc qK q0 hN hA
  · exfalso; omega
theorem rk_4 (hK : KidsRk m D w K kb c f e.ks cs) (h0 : e.k = 4) :
    Rk m D w (.func (.func 78) #[] #[.pointer (some ⟨K, 0, none⟩)]) (f + 1) e := by
  refine ⟨_, _, rfl, ent5, fun W v vs r hW hm hv hr => ?_⟩
  rcases hr with ⟨h, _⟩ | ⟨h, _⟩ | ⟨h, _⟩ | ⟨h, _⟩ | ⟨_, k0, r0, hk, hr0, rfl⟩
  · exfalso; omega
  · exfalso; omega
  · exfalso; omega
  · exfalso; omega
  · obtain ⟨fn, cap, qK, q0, hN, hA⟩ := hK.pick (i := 0) (x := k0) (by rw [hk]; rfl) hW hm hv hr0
    obtain ⟨a', c', rfl⟩ := row_shape hv
    rw [hk] at qK
    exact clo5_any (K := K) hK.hc qK q0 hN hA
end
end Go.Proofs.Ytbhojlchibmfpaa
