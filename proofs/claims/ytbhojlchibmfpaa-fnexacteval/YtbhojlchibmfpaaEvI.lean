/- Own text. The contract of impl.Eval. -/
import Derived.Test.YtbhojlchibmfpaaRkL
namespace Go.Proofs.Ytbhojlchibmfpaa
open Go.RowKit
set_option linter.unusedVariables false
set_option maxHeartbeats 1600000 in
set_option maxRecDepth 100000 in
/-- impl.Eval of an expression that is not right. -/
theorem implEval_no {e : E7} {u : Value} {F : List Nat} {d : Nat} {v : Value} {vs : List V3} {w : World} (hw : e.wf) (hk : KidsIs w d u e.ks F) (hv : RowIs w v vs) (h : okE 13 e = false) :
    Calls Try.prog 19 #[(.agg #[.int .i64 e.k, .int .i64 e.n, .int .i64 e.v.k, .int .i64 e.v.n, .string e.v.s, .string e.p, u]), v] w fun y w' => y = .returned (.agg #[.int .i64 0, .int .i64 0, .string ⟨#[]⟩]) ∧ Below w.heap.size w w' := by
  obtain ⟨a, c, rfl, _, _⟩ := hk.shape
  obtain ⟨a', c', rfl⟩ := row_shape hv
  have hO : ∀ W, Below w.heap.size w W → Calls Try.prog 14 #[(.agg #[.int .i64 e.k, .int .i64 e.n, .int .i64 e.v.k, .int .i64 e.v.n, .string e.v.s, .string e.p, (.slice a e.ks.length c)])] W fun x w' => x = .returned (.bool false) ∧ Below W.heap.size W w' := fun W hW => by
    rw [← h]; exact implExpOk_any e _ F d W hw (hk.below hW)
  clear hk hv hw h
  go_enter Try.func19, Try.ntmps19
  go_wp2_with fail
  refine Calls.mono (hO _ ?hb) ?_
  case hb => repeat (first | (with_reducible exact Below.refl _ _) | (with_reducible refine Below.drew ?_) | (with_reducible refine Below.alloc ?_ ?hh _; case hh => first | (simp; done) | (simp; omega) | omega) | (with_reducible refine Below.setCell ?_ ?hh _; case hh => first | (simp; done) | (simp; omega) | omega) | refine bstep (by assumption) (by first | (simp; done) | (simp; omega) | omega) ?_)
  rintro y w2 ⟨rfl, hb2⟩
  have hz2 := hb2.size
  simp at hz2
  have bel2 : Below w.heap.size w w2 := by repeat (first | (with_reducible exact Below.refl _ _) | (with_reducible refine Below.drew ?_) | (with_reducible refine Below.alloc ?_ ?hh _; case hh => first | (simp; done) | (simp; omega) | omega) | (with_reducible refine Below.setCell ?_ ?hh _; case hh => first | (simp; done) | (simp; omega) | omega) | refine bstep (by assumption) (by first | (simp; done) | (simp; omega) | omega) ?_)
  have r20 : w2.cell? ⟨w.heap.size + 1, 0, none⟩ = some (.int .i64 0) := cell_later hb2 (by go_simp)
  have r21 : w2.cell? ⟨w.heap.size + 1, 1, none⟩ = some (.int .i64 0) := cell_later hb2 (by go_simp)
  have r22 : w2.cell? ⟨w.heap.size + 1, 2, none⟩ = some (.string ⟨#[]⟩) := cell_later hb2 (by go_simp)
  have f2 := (bcell hb2).2
  have hy2 : w.heap.size + 1 < w2.heap.size := by omega
  clear hO
  go_wp2
  refine bodyPost_ret (v := .agg #[.int .i64 0, .int .i64 0, .string ⟨#[]⟩]) (by simp [results, Try.results19, go_sem, *]) rfl ⟨rfl, ?_⟩
  repeat (first | (with_reducible exact Below.refl _ _) | (with_reducible refine Below.drew ?_) | (with_reducible refine Below.alloc ?_ ?hh _; case hh => first | (simp; done) | (simp; omega) | omega) | (with_reducible refine Below.setCell ?_ ?hh _; case hh => first | (simp; done) | (simp; omega) | omega) | refine bstep (by assumption) (by first | (simp; done) | (simp; omega) | omega) ?_)
set_option maxHeartbeats 1600000 in
set_option maxRecDepth 100000 in
/-- impl.Eval of an expression that is right. -/
theorem implEval_yes {m : Int} {e : E7} {u : Value} {F : List Nat} {d : Nat} {v : Value} {vs : List V3} {r : V3} {w : World} (hm : w.cell? ⟨0, 0, none⟩ = some (.int .i64 m)) (hw : e.wf) (hk : KidsIs w d u e.ks F) (hv : RowIs w v vs) (hwt : wtE e ≤ 1048576) (h : okE 13 e = true) (hr : Res m 13 e vs r) :
    Calls Try.prog 19 #[(.agg #[.int .i64 e.k, .int .i64 e.n, .int .i64 e.v.k, .int .i64 e.v.n, .string e.v.s, .string e.p, u]), v] w fun y w' => y = .returned (.agg #[.int .i64 r.k, .int .i64 r.n, .string r.s]) ∧ Below w.heap.size w w' := by
  obtain ⟨a, c, rfl, _, _⟩ := hk.shape
  obtain ⟨a', c', rfl⟩ := row_shape hv
  have hO : ∀ W, Below w.heap.size w W → Calls Try.prog 14 #[(.agg #[.int .i64 e.k, .int .i64 e.n, .int .i64 e.v.k, .int .i64 e.v.n, .string e.v.s, .string e.p, (.slice a e.ks.length c)])] W fun x w' => x = .returned (.bool true) ∧ Below W.heap.size W w' := fun W hW => by
    rw [← h]; exact implExpOk_any e _ F d W hw (hk.below hW)
  have hE : ∀ W, Below w.heap.size w W → Calls Try.prog 49 #[(.agg #[.int .i64 e.k, .int .i64 e.n, .int .i64 e.v.k, .int .i64 e.v.n, .string e.v.s, .string e.p, (.slice a e.ks.length c)])] W fun x w' => (∃ fn cap, x = .returned (.func (.func fn) #[] cap) ∧ Ent fn ∧ Ans fn cap (.slice a' vs.length c') w' r) ∧ Below W.heap.size W w' := fun W hW => by
    refine Calls.mono (rk_any m 13 e _ F d W hw (hk.below hW) h hwt) ?_
    rintro x w' ⟨⟨cl, rfl, fn, cap, rfl, hN, hC⟩, hb⟩
    have hb' := hW.trans (hb.mono hW.size)
    exact ⟨⟨fn, cap, rfl, hN, ans_of (fun b hb => hb.2) hC (fun _ _ => rfl) ((hb'.cell (p := ⟨0, 0, none⟩) (World.block_lt_of_cell? _ _ hm)).trans hm) (hv.below hb') hr⟩, hb⟩
  clear hk hv hw h hr hm
  go_enter Try.func19, Try.ntmps19
  go_wp2_with fail
  refine Calls.mono (hO _ ?hb) ?_
  case hb => repeat (first | (with_reducible exact Below.refl _ _) | (with_reducible refine Below.drew ?_) | (with_reducible refine Below.alloc ?_ ?hh _; case hh => first | (simp; done) | (simp; omega) | omega) | (with_reducible refine Below.setCell ?_ ?hh _; case hh => first | (simp; done) | (simp; omega) | omega) | refine bstep (by assumption) (by first | (simp; done) | (simp; omega) | omega) ?_)
  rintro y w2 ⟨rfl, hb2⟩
  have hz2 := hb2.size
  simp at hz2
  have bel2 : Below w.heap.size w w2 := by repeat (first | (with_reducible exact Below.refl _ _) | (with_reducible refine Below.drew ?_) | (with_reducible refine Below.alloc ?_ ?hh _; case hh => first | (simp; done) | (simp; omega) | omega) | (with_reducible refine Below.setCell ?_ ?hh _; case hh => first | (simp; done) | (simp; omega) | omega) | refine bstep (by assumption) (by first | (simp; done) | (simp; omega) | omega) ?_)
  clear hO
  have r20 : w2.cell? ⟨w.heap.size + 1, 0, none⟩ = some (.int .i64 0) := cell_later hb2 (by go_simp)
  have r21 : w2.cell? ⟨w.heap.size + 1, 1, none⟩ = some (.int .i64 0) := cell_later hb2 (by go_simp)
  have r22 : w2.cell? ⟨w.heap.size + 1, 2, none⟩ = some (.string ⟨#[]⟩) := cell_later hb2 (by go_simp)
  have f2 := (bcell hb2).2
  have hy2 : w.heap.size + 1 < w2.heap.size := by omega
  have q0 : w2.cell? ⟨w.heap.size, 0, none⟩ = some (.int .i64 e.k) := cell_later hb2 (by go_simp)
  have q1 : w2.cell? ⟨w.heap.size, 1, none⟩ = some (.int .i64 e.n) := cell_later hb2 (by go_simp)
  have q2 : w2.cell? ⟨w.heap.size, 2, none⟩ = some (.int .i64 e.v.k) := cell_later hb2 (by go_simp)
  have q3 : w2.cell? ⟨w.heap.size, 3, none⟩ = some (.int .i64 e.v.n) := cell_later hb2 (by go_simp)
  have q4 : w2.cell? ⟨w.heap.size, 4, none⟩ = some (.string e.v.s) := cell_later hb2 (by go_simp)
  have q5 : w2.cell? ⟨w.heap.size, 5, none⟩ = some (.string e.p) := cell_later hb2 (by go_simp)
  have q6 : w2.cell? ⟨w.heap.size, 6, none⟩ = some (.slice a e.ks.length c) := cell_later hb2 (by go_simp)
  go_wp2_with fail
  refine Calls.mono (hE _ bel2) ?_
  rintro y w3 ⟨⟨fn, cap, rfl, hN, hA⟩, hb3⟩
  have hz3 := hb3.size
  have bel3 : Below w.heap.size w w3 := by repeat (first | (with_reducible exact Below.refl _ _) | (with_reducible refine Below.drew ?_) | (with_reducible refine Below.alloc ?_ ?hh _; case hh => first | (simp; done) | (simp; omega) | omega) | (with_reducible refine Below.setCell ?_ ?hh _; case hh => first | (simp; done) | (simp; omega) | omega) | refine bstep (by assumption) (by first | (simp; done) | (simp; omega) | omega) ?_)
  have r30 : w3.cell? ⟨w.heap.size + 1, 0, none⟩ = some (.int .i64 0) := cell_later hb3 (by go_simp)
  have r31 : w3.cell? ⟨w.heap.size + 1, 1, none⟩ = some (.int .i64 0) := cell_later hb3 (by go_simp)
  have r32 : w3.cell? ⟨w.heap.size + 1, 2, none⟩ = some (.string ⟨#[]⟩) := cell_later hb3 (by go_simp)
  have f3 := (bcell hb3).2
  have hy3 : w.heap.size + 1 < w3.heap.size := by omega
  clear hE hb2 hb3 q0 q1 q2 q3 q4 q5 q6
  go_wp2_with fail
  rw [hN, Oper.upon_enter]
  refine Calls.mono (hA _ (Below.refl _ _)) ?_
  rintro y w4 ⟨rfl, hb4⟩
  have hz4 := hb4.size
  have bel4 : Below w.heap.size w w4 := by repeat (first | (with_reducible exact Below.refl _ _) | (with_reducible refine Below.drew ?_) | (with_reducible refine Below.alloc ?_ ?hh _; case hh => first | (simp; done) | (simp; omega) | omega) | (with_reducible refine Below.setCell ?_ ?hh _; case hh => first | (simp; done) | (simp; omega) | omega) | refine bstep (by assumption) (by first | (simp; done) | (simp; omega) | omega) ?_)
  have r40 : w4.cell? ⟨w.heap.size + 1, 0, none⟩ = some (.int .i64 0) := cell_later hb4 (by go_simp)
  have r41 : w4.cell? ⟨w.heap.size + 1, 1, none⟩ = some (.int .i64 0) := cell_later hb4 (by go_simp)
  have r42 : w4.cell? ⟨w.heap.size + 1, 2, none⟩ = some (.string ⟨#[]⟩) := cell_later hb4 (by go_simp)
  have f4 := (bcell hb4).2
  have hy4 : w.heap.size + 1 < w4.heap.size := by omega
  clear hA hN hb4
  go_wp2
  refine bodyPost_ret (v := .agg #[.int .i64 r.k, .int .i64 r.n, .string r.s]) (by simp [results, Try.results19, go_sem, *]) rfl ⟨rfl, ?_⟩
  repeat (first | (with_reducible exact Below.refl _ _) | (with_reducible refine Below.drew ?_) | (with_reducible refine Below.alloc ?_ ?hh _; case hh => first | (simp; done) | (simp; omega) | omega) | (with_reducible refine Below.setCell ?_ ?hh _; case hh => first | (simp; done) | (simp; omega) | omega) | refine bstep (by assumption) (by first | (simp; done) | (simp; omega) | omega) ?_)
end Go.Proofs.Ytbhojlchibmfpaa
