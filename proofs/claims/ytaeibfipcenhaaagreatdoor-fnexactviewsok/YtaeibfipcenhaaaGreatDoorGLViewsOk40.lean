/- Own texts, joined: contracts that the law's proof goes by. -/
import Derived.Test.YtaeibfipcenhaaaGreatDoorGLViewsOk35
import Derived.Handy
import Derived.Deep.RegionHeld3
import Derived.Test.YtaeibfipcenhaaaGreatDoorGLViewsOk24
namespace Go.Proofs.YtaeibfipcenhaaaGreatDoor
open Go.RowKit
set_option linter.unusedVariables false
set_option linter.unusedSimpArgs false
theorem nb0 (m : Nat) : ((0 : Int) < (m : Int)) ↔ ¬ m = 0 := by omega
theorem nbI (m : Nat) (k : Int) : ((m : Int) == k) = decide ((m : Int) = k) := rfl
set_option maxHeartbeats 8000000 in
set_option maxRecDepth 100000 in
theorem l04Form_0 (k : Int) (s : ByteArray) (e : E7) (n : Int) (a1 a2 a3 : Option Addr) (le c1 ls c2 lk c3 : Nat) (w : World) (bn : Bool) (kk : Int) (hls : ls ≤ maxLen) (hlk : lk ≤ maxLen)
    (hN : ∀ w2, Calls Tryz.prog 64 #[(.agg #[.int .i64 e.k, .int .i64 e.n, .int .i64 e.v.k, .int .i64 e.v.n, .string e.v.s, .string e.p, (.slice a1 le c1)])] w2 fun x w' => x = .returned (.bool bn) ∧ Below w2.heap.size w2 w')
    (hK : ∀ w2, Calls Tryz.prog 65 #[.int .i64 (0)] w2 fun x w' => x = .returned (.int .i64 kk) ∧ Below w2.heap.size w2 w') :
    Calls Tryz.prog 46 #[.agg #[.int .i64 (0), .string s, .int .i64 e.k, .int .i64 e.n, .int .i64 e.v.k, .int .i64 e.v.n, .string e.v.s, .string e.p, .slice a1 le c1, .slice a2 ls c2, .int .i64 n, .slice a3 lk c3]] w fun x w' => x = .returned (.bool ((((0) : Int) == 0 || s.toList == []) && ((((0) : Int) == 1 || ((0) : Int) == 3 || bn) && ((((0) : Int) == 2 || ((0) : Int) == 6 || ls == 0) && ((((0) : Int) == 6 || n == 0) && ((lk : Int) == kk)))))) ∧ Below w.heap.size w w' := by
    unfold maxLen at hls hlk
    go_enter Tryz.func46, Tryz.ntmps46
    go_wp2_with (first | (go_at_call 64; refine Calls.mono (hN _) ?_; rintro y w1 ⟨rfl, hb1⟩; have hz1 := hb1.size; simp at hz1; have q0 : w1.cell? ⟨w.heap.size, 0, none⟩ = some (.int .i64 (0)) := cell_later hb1 (by go_simp); have q9 : w1.cell? ⟨w.heap.size, 9, none⟩ = some (.slice a2 ls c2) := cell_later hb1 (by go_simp); have q10 : w1.cell? ⟨w.heap.size, 10, none⟩ = some (.int .i64 n) := cell_later hb1 (by go_simp); have q11 : w1.cell? ⟨w.heap.size, 11, none⟩ = some (.slice a3 lk c3) := cell_later hb1 (by go_simp); have bel1 : Below w.heap.size w w1 := (by repeat (first | (with_reducible exact Below.refl _ _) | (with_reducible refine Below.drew ?_) | (with_reducible refine Below.alloc ?_ ?hh _; case hh => first | (simp; done) | (simp; omega) | omega) | (with_reducible refine Below.setCell ?_ ?hh _; case hh => first | (simp; done) | (simp; omega) | omega) | refine bstep (by assumption) (by first | (simp; done) | (simp; omega) | omega) ?_)); clear hb1) | fail)
    all_goals (try (go_region_held3 (fun w' => w'.cell? ⟨w.heap.size, 0, none⟩ = some (.int .i64 (0)) ∧ w'.cell? ⟨w.heap.size, 11, none⟩ = some (.slice a3 lk c3)) (refine ⟨?_, ?_⟩ <;> first | (go_simp; done) | assumption | (exact cell_later (by assumption) (by go_simp))) (first | (go_at_call 65; refine Calls.mono (hK _) ?_; rintro y w2 ⟨rfl, hb2⟩; have hz2 := hb2.size; (try simp at hz2)))))
    all_goals (try go_wp2_with fail)
    all_goals (go_returns; exact ⟨ret_bool (by clear hN hK; simp_all [nb0, nbI]), by repeat (first | (with_reducible exact Below.refl _ _) | (with_reducible refine Below.drew ?_) | (with_reducible refine Below.alloc ?_ ?hh _; case hh => first | (simp; done) | (simp; omega) | omega) | (with_reducible refine Below.setCell ?_ ?hh _; case hh => first | (simp; done) | (simp; omega) | omega) | refine bstep (by assumption) (by first | (simp; done) | (simp; omega) | omega) ?_)⟩)
set_option maxHeartbeats 8000000 in
set_option maxRecDepth 100000 in
theorem l04Form_1 (k : Int) (s : ByteArray) (e : E7) (n : Int) (a1 a2 a3 : Option Addr) (le c1 ls c2 lk c3 : Nat) (w : World) (bn : Bool) (kk : Int) (hls : ls ≤ maxLen) (hlk : lk ≤ maxLen)
    (hN : ∀ w2, Calls Tryz.prog 64 #[(.agg #[.int .i64 e.k, .int .i64 e.n, .int .i64 e.v.k, .int .i64 e.v.n, .string e.v.s, .string e.p, (.slice a1 le c1)])] w2 fun x w' => x = .returned (.bool bn) ∧ Below w2.heap.size w2 w')
    (hK : ∀ w2, Calls Tryz.prog 65 #[.int .i64 (1)] w2 fun x w' => x = .returned (.int .i64 kk) ∧ Below w2.heap.size w2 w') :
    Calls Tryz.prog 46 #[.agg #[.int .i64 (1), .string s, .int .i64 e.k, .int .i64 e.n, .int .i64 e.v.k, .int .i64 e.v.n, .string e.v.s, .string e.p, .slice a1 le c1, .slice a2 ls c2, .int .i64 n, .slice a3 lk c3]] w fun x w' => x = .returned (.bool ((((1) : Int) == 0 || s.toList == []) && ((((1) : Int) == 1 || ((1) : Int) == 3 || bn) && ((((1) : Int) == 2 || ((1) : Int) == 6 || ls == 0) && ((((1) : Int) == 6 || n == 0) && ((lk : Int) == kk)))))) ∧ Below w.heap.size w w' := by
    unfold maxLen at hls hlk
    go_enter Tryz.func46, Tryz.ntmps46
    go_wp2_with (first | (go_at_call 64; refine Calls.mono (hN _) ?_; rintro y w1 ⟨rfl, hb1⟩; have hz1 := hb1.size; simp at hz1; have q0 : w1.cell? ⟨w.heap.size, 0, none⟩ = some (.int .i64 (1)) := cell_later hb1 (by go_simp); have q9 : w1.cell? ⟨w.heap.size, 9, none⟩ = some (.slice a2 ls c2) := cell_later hb1 (by go_simp); have q10 : w1.cell? ⟨w.heap.size, 10, none⟩ = some (.int .i64 n) := cell_later hb1 (by go_simp); have q11 : w1.cell? ⟨w.heap.size, 11, none⟩ = some (.slice a3 lk c3) := cell_later hb1 (by go_simp); have bel1 : Below w.heap.size w w1 := (by repeat (first | (with_reducible exact Below.refl _ _) | (with_reducible refine Below.drew ?_) | (with_reducible refine Below.alloc ?_ ?hh _; case hh => first | (simp; done) | (simp; omega) | omega) | (with_reducible refine Below.setCell ?_ ?hh _; case hh => first | (simp; done) | (simp; omega) | omega) | refine bstep (by assumption) (by first | (simp; done) | (simp; omega) | omega) ?_)); clear hb1) | fail)
    all_goals (try (go_region_held3 (fun w' => w'.cell? ⟨w.heap.size, 0, none⟩ = some (.int .i64 (1)) ∧ w'.cell? ⟨w.heap.size, 11, none⟩ = some (.slice a3 lk c3)) (refine ⟨?_, ?_⟩ <;> first | (go_simp; done) | assumption | (exact cell_later (by assumption) (by go_simp))) (first | (go_at_call 65; refine Calls.mono (hK _) ?_; rintro y w2 ⟨rfl, hb2⟩; have hz2 := hb2.size; (try simp at hz2)))))
    all_goals (try go_wp2_with fail)
    all_goals (go_returns; exact ⟨ret_bool (by clear hN hK; simp_all [nb0, nbI]), by repeat (first | (with_reducible exact Below.refl _ _) | (with_reducible refine Below.drew ?_) | (with_reducible refine Below.alloc ?_ ?hh _; case hh => first | (simp; done) | (simp; omega) | omega) | (with_reducible refine Below.setCell ?_ ?hh _; case hh => first | (simp; done) | (simp; omega) | omega) | refine bstep (by assumption) (by first | (simp; done) | (simp; omega) | omega) ?_)⟩)
set_option maxHeartbeats 8000000 in
set_option maxRecDepth 100000 in
theorem l04Form_2 (k : Int) (s : ByteArray) (e : E7) (n : Int) (a1 a2 a3 : Option Addr) (le c1 ls c2 lk c3 : Nat) (w : World) (bn : Bool) (kk : Int) (hls : ls ≤ maxLen) (hlk : lk ≤ maxLen)
    (hN : ∀ w2, Calls Tryz.prog 64 #[(.agg #[.int .i64 e.k, .int .i64 e.n, .int .i64 e.v.k, .int .i64 e.v.n, .string e.v.s, .string e.p, (.slice a1 le c1)])] w2 fun x w' => x = .returned (.bool bn) ∧ Below w2.heap.size w2 w')
    (hK : ∀ w2, Calls Tryz.prog 65 #[.int .i64 (2)] w2 fun x w' => x = .returned (.int .i64 kk) ∧ Below w2.heap.size w2 w') :
    Calls Tryz.prog 46 #[.agg #[.int .i64 (2), .string s, .int .i64 e.k, .int .i64 e.n, .int .i64 e.v.k, .int .i64 e.v.n, .string e.v.s, .string e.p, .slice a1 le c1, .slice a2 ls c2, .int .i64 n, .slice a3 lk c3]] w fun x w' => x = .returned (.bool ((((2) : Int) == 0 || s.toList == []) && ((((2) : Int) == 1 || ((2) : Int) == 3 || bn) && ((((2) : Int) == 2 || ((2) : Int) == 6 || ls == 0) && ((((2) : Int) == 6 || n == 0) && ((lk : Int) == kk)))))) ∧ Below w.heap.size w w' := by
    unfold maxLen at hls hlk
    go_enter Tryz.func46, Tryz.ntmps46
    go_wp2_with (first | (go_at_call 64; refine Calls.mono (hN _) ?_; rintro y w1 ⟨rfl, hb1⟩; have hz1 := hb1.size; simp at hz1; have q0 : w1.cell? ⟨w.heap.size, 0, none⟩ = some (.int .i64 (2)) := cell_later hb1 (by go_simp); have q9 : w1.cell? ⟨w.heap.size, 9, none⟩ = some (.slice a2 ls c2) := cell_later hb1 (by go_simp); have q10 : w1.cell? ⟨w.heap.size, 10, none⟩ = some (.int .i64 n) := cell_later hb1 (by go_simp); have q11 : w1.cell? ⟨w.heap.size, 11, none⟩ = some (.slice a3 lk c3) := cell_later hb1 (by go_simp); have bel1 : Below w.heap.size w w1 := (by repeat (first | (with_reducible exact Below.refl _ _) | (with_reducible refine Below.drew ?_) | (with_reducible refine Below.alloc ?_ ?hh _; case hh => first | (simp; done) | (simp; omega) | omega) | (with_reducible refine Below.setCell ?_ ?hh _; case hh => first | (simp; done) | (simp; omega) | omega) | refine bstep (by assumption) (by first | (simp; done) | (simp; omega) | omega) ?_)); clear hb1) | fail)
    all_goals (try (go_region_held3 (fun w' => w'.cell? ⟨w.heap.size, 0, none⟩ = some (.int .i64 (2)) ∧ w'.cell? ⟨w.heap.size, 11, none⟩ = some (.slice a3 lk c3)) (refine ⟨?_, ?_⟩ <;> first | (go_simp; done) | assumption | (exact cell_later (by assumption) (by go_simp))) (first | (go_at_call 65; refine Calls.mono (hK _) ?_; rintro y w2 ⟨rfl, hb2⟩; have hz2 := hb2.size; (try simp at hz2)))))
    all_goals (try go_wp2_with fail)
    all_goals (go_returns; exact ⟨ret_bool (by clear hN hK; simp_all [nb0, nbI]), by repeat (first | (with_reducible exact Below.refl _ _) | (with_reducible refine Below.drew ?_) | (with_reducible refine Below.alloc ?_ ?hh _; case hh => first | (simp; done) | (simp; omega) | omega) | (with_reducible refine Below.setCell ?_ ?hh _; case hh => first | (simp; done) | (simp; omega) | omega) | refine bstep (by assumption) (by first | (simp; done) | (simp; omega) | omega) ?_)⟩)
set_option maxHeartbeats 8000000 in
set_option maxRecDepth 100000 in
theorem l04Form_3 (k : Int) (s : ByteArray) (e : E7) (n : Int) (a1 a2 a3 : Option Addr) (le c1 ls c2 lk c3 : Nat) (w : World) (bn : Bool) (kk : Int) (hls : ls ≤ maxLen) (hlk : lk ≤ maxLen)
    (hN : ∀ w2, Calls Tryz.prog 64 #[(.agg #[.int .i64 e.k, .int .i64 e.n, .int .i64 e.v.k, .int .i64 e.v.n, .string e.v.s, .string e.p, (.slice a1 le c1)])] w2 fun x w' => x = .returned (.bool bn) ∧ Below w2.heap.size w2 w')
    (hK : ∀ w2, Calls Tryz.prog 65 #[.int .i64 (3)] w2 fun x w' => x = .returned (.int .i64 kk) ∧ Below w2.heap.size w2 w') :
    Calls Tryz.prog 46 #[.agg #[.int .i64 (3), .string s, .int .i64 e.k, .int .i64 e.n, .int .i64 e.v.k, .int .i64 e.v.n, .string e.v.s, .string e.p, .slice a1 le c1, .slice a2 ls c2, .int .i64 n, .slice a3 lk c3]] w fun x w' => x = .returned (.bool ((((3) : Int) == 0 || s.toList == []) && ((((3) : Int) == 1 || ((3) : Int) == 3 || bn) && ((((3) : Int) == 2 || ((3) : Int) == 6 || ls == 0) && ((((3) : Int) == 6 || n == 0) && ((lk : Int) == kk)))))) ∧ Below w.heap.size w w' := by
    unfold maxLen at hls hlk
    go_enter Tryz.func46, Tryz.ntmps46
    go_wp2_with (first | (go_at_call 64; refine Calls.mono (hN _) ?_; rintro y w1 ⟨rfl, hb1⟩; have hz1 := hb1.size; simp at hz1; have q0 : w1.cell? ⟨w.heap.size, 0, none⟩ = some (.int .i64 (3)) := cell_later hb1 (by go_simp); have q9 : w1.cell? ⟨w.heap.size, 9, none⟩ = some (.slice a2 ls c2) := cell_later hb1 (by go_simp); have q10 : w1.cell? ⟨w.heap.size, 10, none⟩ = some (.int .i64 n) := cell_later hb1 (by go_simp); have q11 : w1.cell? ⟨w.heap.size, 11, none⟩ = some (.slice a3 lk c3) := cell_later hb1 (by go_simp); have bel1 : Below w.heap.size w w1 := (by repeat (first | (with_reducible exact Below.refl _ _) | (with_reducible refine Below.drew ?_) | (with_reducible refine Below.alloc ?_ ?hh _; case hh => first | (simp; done) | (simp; omega) | omega) | (with_reducible refine Below.setCell ?_ ?hh _; case hh => first | (simp; done) | (simp; omega) | omega) | refine bstep (by assumption) (by first | (simp; done) | (simp; omega) | omega) ?_)); clear hb1) | fail)
    all_goals (try (go_region_held3 (fun w' => w'.cell? ⟨w.heap.size, 0, none⟩ = some (.int .i64 (3)) ∧ w'.cell? ⟨w.heap.size, 11, none⟩ = some (.slice a3 lk c3)) (refine ⟨?_, ?_⟩ <;> first | (go_simp; done) | assumption | (exact cell_later (by assumption) (by go_simp))) (first | (go_at_call 65; refine Calls.mono (hK _) ?_; rintro y w2 ⟨rfl, hb2⟩; have hz2 := hb2.size; (try simp at hz2)))))
    all_goals (try go_wp2_with fail)
    all_goals (go_returns; exact ⟨ret_bool (by clear hN hK; simp_all [nb0, nbI]), by repeat (first | (with_reducible exact Below.refl _ _) | (with_reducible refine Below.drew ?_) | (with_reducible refine Below.alloc ?_ ?hh _; case hh => first | (simp; done) | (simp; omega) | omega) | (with_reducible refine Below.setCell ?_ ?hh _; case hh => first | (simp; done) | (simp; omega) | omega) | refine bstep (by assumption) (by first | (simp; done) | (simp; omega) | omega) ?_)⟩)
set_option maxHeartbeats 8000000 in
set_option maxRecDepth 100000 in
theorem l04Form_4 (k : Int) (s : ByteArray) (e : E7) (n : Int) (a1 a2 a3 : Option Addr) (le c1 ls c2 lk c3 : Nat) (w : World) (bn : Bool) (kk : Int) (hls : ls ≤ maxLen) (hlk : lk ≤ maxLen)
    (hN : ∀ w2, Calls Tryz.prog 64 #[(.agg #[.int .i64 e.k, .int .i64 e.n, .int .i64 e.v.k, .int .i64 e.v.n, .string e.v.s, .string e.p, (.slice a1 le c1)])] w2 fun x w' => x = .returned (.bool bn) ∧ Below w2.heap.size w2 w')
    (hK : ∀ w2, Calls Tryz.prog 65 #[.int .i64 (4)] w2 fun x w' => x = .returned (.int .i64 kk) ∧ Below w2.heap.size w2 w') :
    Calls Tryz.prog 46 #[.agg #[.int .i64 (4), .string s, .int .i64 e.k, .int .i64 e.n, .int .i64 e.v.k, .int .i64 e.v.n, .string e.v.s, .string e.p, .slice a1 le c1, .slice a2 ls c2, .int .i64 n, .slice a3 lk c3]] w fun x w' => x = .returned (.bool ((((4) : Int) == 0 || s.toList == []) && ((((4) : Int) == 1 || ((4) : Int) == 3 || bn) && ((((4) : Int) == 2 || ((4) : Int) == 6 || ls == 0) && ((((4) : Int) == 6 || n == 0) && ((lk : Int) == kk)))))) ∧ Below w.heap.size w w' := by
    unfold maxLen at hls hlk
    go_enter Tryz.func46, Tryz.ntmps46
    go_wp2_with (first | (go_at_call 64; refine Calls.mono (hN _) ?_; rintro y w1 ⟨rfl, hb1⟩; have hz1 := hb1.size; simp at hz1; have q0 : w1.cell? ⟨w.heap.size, 0, none⟩ = some (.int .i64 (4)) := cell_later hb1 (by go_simp); have q9 : w1.cell? ⟨w.heap.size, 9, none⟩ = some (.slice a2 ls c2) := cell_later hb1 (by go_simp); have q10 : w1.cell? ⟨w.heap.size, 10, none⟩ = some (.int .i64 n) := cell_later hb1 (by go_simp); have q11 : w1.cell? ⟨w.heap.size, 11, none⟩ = some (.slice a3 lk c3) := cell_later hb1 (by go_simp); have bel1 : Below w.heap.size w w1 := (by repeat (first | (with_reducible exact Below.refl _ _) | (with_reducible refine Below.drew ?_) | (with_reducible refine Below.alloc ?_ ?hh _; case hh => first | (simp; done) | (simp; omega) | omega) | (with_reducible refine Below.setCell ?_ ?hh _; case hh => first | (simp; done) | (simp; omega) | omega) | refine bstep (by assumption) (by first | (simp; done) | (simp; omega) | omega) ?_)); clear hb1) | fail)
    all_goals (try (go_region_held3 (fun w' => w'.cell? ⟨w.heap.size, 0, none⟩ = some (.int .i64 (4)) ∧ w'.cell? ⟨w.heap.size, 11, none⟩ = some (.slice a3 lk c3)) (refine ⟨?_, ?_⟩ <;> first | (go_simp; done) | assumption | (exact cell_later (by assumption) (by go_simp))) (first | (go_at_call 65; refine Calls.mono (hK _) ?_; rintro y w2 ⟨rfl, hb2⟩; have hz2 := hb2.size; (try simp at hz2)))))
    all_goals (try go_wp2_with fail)
    all_goals (go_returns; exact ⟨ret_bool (by clear hN hK; simp_all [nb0, nbI]), by repeat (first | (with_reducible exact Below.refl _ _) | (with_reducible refine Below.drew ?_) | (with_reducible refine Below.alloc ?_ ?hh _; case hh => first | (simp; done) | (simp; omega) | omega) | (with_reducible refine Below.setCell ?_ ?hh _; case hh => first | (simp; done) | (simp; omega) | omega) | refine bstep (by assumption) (by first | (simp; done) | (simp; omega) | omega) ?_)⟩)
set_option maxHeartbeats 8000000 in
set_option maxRecDepth 100000 in
theorem l04Form_5 (k : Int) (s : ByteArray) (e : E7) (n : Int) (a1 a2 a3 : Option Addr) (le c1 ls c2 lk c3 : Nat) (w : World) (bn : Bool) (kk : Int) (hls : ls ≤ maxLen) (hlk : lk ≤ maxLen)
    (hN : ∀ w2, Calls Tryz.prog 64 #[(.agg #[.int .i64 e.k, .int .i64 e.n, .int .i64 e.v.k, .int .i64 e.v.n, .string e.v.s, .string e.p, (.slice a1 le c1)])] w2 fun x w' => x = .returned (.bool bn) ∧ Below w2.heap.size w2 w')
    (hK : ∀ w2, Calls Tryz.prog 65 #[.int .i64 (5)] w2 fun x w' => x = .returned (.int .i64 kk) ∧ Below w2.heap.size w2 w') :
    Calls Tryz.prog 46 #[.agg #[.int .i64 (5), .string s, .int .i64 e.k, .int .i64 e.n, .int .i64 e.v.k, .int .i64 e.v.n, .string e.v.s, .string e.p, .slice a1 le c1, .slice a2 ls c2, .int .i64 n, .slice a3 lk c3]] w fun x w' => x = .returned (.bool ((((5) : Int) == 0 || s.toList == []) && ((((5) : Int) == 1 || ((5) : Int) == 3 || bn) && ((((5) : Int) == 2 || ((5) : Int) == 6 || ls == 0) && ((((5) : Int) == 6 || n == 0) && ((lk : Int) == kk)))))) ∧ Below w.heap.size w w' := by
    unfold maxLen at hls hlk
    go_enter Tryz.func46, Tryz.ntmps46
    go_wp2_with (first | (go_at_call 64; refine Calls.mono (hN _) ?_; rintro y w1 ⟨rfl, hb1⟩; have hz1 := hb1.size; simp at hz1; have q0 : w1.cell? ⟨w.heap.size, 0, none⟩ = some (.int .i64 (5)) := cell_later hb1 (by go_simp); have q9 : w1.cell? ⟨w.heap.size, 9, none⟩ = some (.slice a2 ls c2) := cell_later hb1 (by go_simp); have q10 : w1.cell? ⟨w.heap.size, 10, none⟩ = some (.int .i64 n) := cell_later hb1 (by go_simp); have q11 : w1.cell? ⟨w.heap.size, 11, none⟩ = some (.slice a3 lk c3) := cell_later hb1 (by go_simp); have bel1 : Below w.heap.size w w1 := (by repeat (first | (with_reducible exact Below.refl _ _) | (with_reducible refine Below.drew ?_) | (with_reducible refine Below.alloc ?_ ?hh _; case hh => first | (simp; done) | (simp; omega) | omega) | (with_reducible refine Below.setCell ?_ ?hh _; case hh => first | (simp; done) | (simp; omega) | omega) | refine bstep (by assumption) (by first | (simp; done) | (simp; omega) | omega) ?_)); clear hb1) | fail)
    all_goals (try (go_region_held3 (fun w' => w'.cell? ⟨w.heap.size, 0, none⟩ = some (.int .i64 (5)) ∧ w'.cell? ⟨w.heap.size, 11, none⟩ = some (.slice a3 lk c3)) (refine ⟨?_, ?_⟩ <;> first | (go_simp; done) | assumption | (exact cell_later (by assumption) (by go_simp))) (first | (go_at_call 65; refine Calls.mono (hK _) ?_; rintro y w2 ⟨rfl, hb2⟩; have hz2 := hb2.size; (try simp at hz2)))))
    all_goals (try go_wp2_with fail)
    all_goals (go_returns; exact ⟨ret_bool (by clear hN hK; simp_all [nb0, nbI]), by repeat (first | (with_reducible exact Below.refl _ _) | (with_reducible refine Below.drew ?_) | (with_reducible refine Below.alloc ?_ ?hh _; case hh => first | (simp; done) | (simp; omega) | omega) | (with_reducible refine Below.setCell ?_ ?hh _; case hh => first | (simp; done) | (simp; omega) | omega) | refine bstep (by assumption) (by first | (simp; done) | (simp; omega) | omega) ?_)⟩)
set_option maxHeartbeats 8000000 in
set_option maxRecDepth 100000 in
theorem l04Form_6 (k : Int) (s : ByteArray) (e : E7) (n : Int) (a1 a2 a3 : Option Addr) (le c1 ls c2 lk c3 : Nat) (w : World) (bn : Bool) (kk : Int) (hls : ls ≤ maxLen) (hlk : lk ≤ maxLen)
    (hN : ∀ w2, Calls Tryz.prog 64 #[(.agg #[.int .i64 e.k, .int .i64 e.n, .int .i64 e.v.k, .int .i64 e.v.n, .string e.v.s, .string e.p, (.slice a1 le c1)])] w2 fun x w' => x = .returned (.bool bn) ∧ Below w2.heap.size w2 w')
    (hK : ∀ w2, Calls Tryz.prog 65 #[.int .i64 (6)] w2 fun x w' => x = .returned (.int .i64 kk) ∧ Below w2.heap.size w2 w') :
    Calls Tryz.prog 46 #[.agg #[.int .i64 (6), .string s, .int .i64 e.k, .int .i64 e.n, .int .i64 e.v.k, .int .i64 e.v.n, .string e.v.s, .string e.p, .slice a1 le c1, .slice a2 ls c2, .int .i64 n, .slice a3 lk c3]] w fun x w' => x = .returned (.bool ((((6) : Int) == 0 || s.toList == []) && ((((6) : Int) == 1 || ((6) : Int) == 3 || bn) && ((((6) : Int) == 2 || ((6) : Int) == 6 || ls == 0) && ((((6) : Int) == 6 || n == 0) && ((lk : Int) == kk)))))) ∧ Below w.heap.size w w' := by
    unfold maxLen at hls hlk
    go_enter Tryz.func46, Tryz.ntmps46
    go_wp2_with (first | (go_at_call 64; refine Calls.mono (hN _) ?_; rintro y w1 ⟨rfl, hb1⟩; have hz1 := hb1.size; simp at hz1; have q0 : w1.cell? ⟨w.heap.size, 0, none⟩ = some (.int .i64 (6)) := cell_later hb1 (by go_simp); have q9 : w1.cell? ⟨w.heap.size, 9, none⟩ = some (.slice a2 ls c2) := cell_later hb1 (by go_simp); have q10 : w1.cell? ⟨w.heap.size, 10, none⟩ = some (.int .i64 n) := cell_later hb1 (by go_simp); have q11 : w1.cell? ⟨w.heap.size, 11, none⟩ = some (.slice a3 lk c3) := cell_later hb1 (by go_simp); have bel1 : Below w.heap.size w w1 := (by repeat (first | (with_reducible exact Below.refl _ _) | (with_reducible refine Below.drew ?_) | (with_reducible refine Below.alloc ?_ ?hh _; case hh => first | (simp; done) | (simp; omega) | omega) | (with_reducible refine Below.setCell ?_ ?hh _; case hh => first | (simp; done) | (simp; omega) | omega) | refine bstep (by assumption) (by first | (simp; done) | (simp; omega) | omega) ?_)); clear hb1) | fail)
    all_goals (try (go_region_held3 (fun w' => w'.cell? ⟨w.heap.size, 0, none⟩ = some (.int .i64 (6)) ∧ w'.cell? ⟨w.heap.size, 11, none⟩ = some (.slice a3 lk c3)) (refine ⟨?_, ?_⟩ <;> first | (go_simp; done) | assumption | (exact cell_later (by assumption) (by go_simp))) (first | (go_at_call 65; refine Calls.mono (hK _) ?_; rintro y w2 ⟨rfl, hb2⟩; have hz2 := hb2.size; (try simp at hz2)))))
    all_goals (try go_wp2_with fail)
    all_goals (go_returns; exact ⟨ret_bool (by clear hN hK; simp_all [nb0, nbI]), by repeat (first | (with_reducible exact Below.refl _ _) | (with_reducible refine Below.drew ?_) | (with_reducible refine Below.alloc ?_ ?hh _; case hh => first | (simp; done) | (simp; omega) | omega) | (with_reducible refine Below.setCell ?_ ?hh _; case hh => first | (simp; done) | (simp; omega) | omega) | refine bstep (by assumption) (by first | (simp; done) | (simp; omega) | omega) ?_)⟩)
set_option maxHeartbeats 8000000 in
set_option maxRecDepth 100000 in
theorem l04Form_x (k : Int) (s : ByteArray) (e : E7) (n : Int) (a1 a2 a3 : Option Addr) (le c1 ls c2 lk c3 : Nat) (w : World) (bn : Bool) (kk : Int) (hls : ls ≤ maxLen) (hlk : lk ≤ maxLen) (h0 : (k == 0) = false) (h1 : (k == 1) = false) (h2 : (k == 2) = false) (h3 : (k == 3) = false) (h6 : (k == 6) = false) (g0 : (k != 0) = true) (g1 : (k != 1) = true) (g2 : (k != 2) = true) (g3 : (k != 3) = true) (g6 : (k != 6) = true)
    (hN : ∀ w2, Calls Tryz.prog 64 #[(.agg #[.int .i64 e.k, .int .i64 e.n, .int .i64 e.v.k, .int .i64 e.v.n, .string e.v.s, .string e.p, (.slice a1 le c1)])] w2 fun x w' => x = .returned (.bool bn) ∧ Below w2.heap.size w2 w')
    (hK : ∀ w2, Calls Tryz.prog 65 #[.int .i64 k] w2 fun x w' => x = .returned (.int .i64 kk) ∧ Below w2.heap.size w2 w') :
    Calls Tryz.prog 46 #[.agg #[.int .i64 k, .string s, .int .i64 e.k, .int .i64 e.n, .int .i64 e.v.k, .int .i64 e.v.n, .string e.v.s, .string e.p, .slice a1 le c1, .slice a2 ls c2, .int .i64 n, .slice a3 lk c3]] w fun x w' => x = .returned (.bool (((k : Int) == 0 || s.toList == []) && (((k : Int) == 1 || (k : Int) == 3 || bn) && (((k : Int) == 2 || (k : Int) == 6 || ls == 0) && (((k : Int) == 6 || n == 0) && ((lk : Int) == kk)))))) ∧ Below w.heap.size w w' := by
    unfold maxLen at hls hlk
    go_enter Tryz.func46, Tryz.ntmps46
    go_wp2_with (first | (go_at_call 64; refine Calls.mono (hN _) ?_; rintro y w1 ⟨rfl, hb1⟩; have hz1 := hb1.size; simp at hz1; have q0 : w1.cell? ⟨w.heap.size, 0, none⟩ = some (.int .i64 k) := cell_later hb1 (by go_simp); have q9 : w1.cell? ⟨w.heap.size, 9, none⟩ = some (.slice a2 ls c2) := cell_later hb1 (by go_simp); have q10 : w1.cell? ⟨w.heap.size, 10, none⟩ = some (.int .i64 n) := cell_later hb1 (by go_simp); have q11 : w1.cell? ⟨w.heap.size, 11, none⟩ = some (.slice a3 lk c3) := cell_later hb1 (by go_simp); have bel1 : Below w.heap.size w w1 := (by repeat (first | (with_reducible exact Below.refl _ _) | (with_reducible refine Below.drew ?_) | (with_reducible refine Below.alloc ?_ ?hh _; case hh => first | (simp; done) | (simp; omega) | omega) | (with_reducible refine Below.setCell ?_ ?hh _; case hh => first | (simp; done) | (simp; omega) | omega) | refine bstep (by assumption) (by first | (simp; done) | (simp; omega) | omega) ?_)); clear hb1) | fail)
    all_goals (try (go_region_held3 (fun w' => w'.cell? ⟨w.heap.size, 0, none⟩ = some (.int .i64 k) ∧ w'.cell? ⟨w.heap.size, 11, none⟩ = some (.slice a3 lk c3)) (refine ⟨?_, ?_⟩ <;> first | (go_simp; done) | assumption | (exact cell_later (by assumption) (by go_simp))) (first | (go_at_call 65; refine Calls.mono (hK _) ?_; rintro y w2 ⟨rfl, hb2⟩; have hz2 := hb2.size; (try simp at hz2)))))
    all_goals (try go_wp2_with fail)
    all_goals (go_returns; exact ⟨ret_bool (by clear hN hK; simp_all [nb0, nbI]), by repeat (first | (with_reducible exact Below.refl _ _) | (with_reducible refine Below.drew ?_) | (with_reducible refine Below.alloc ?_ ?hh _; case hh => first | (simp; done) | (simp; omega) | omega) | (with_reducible refine Below.setCell ?_ ?hh _; case hh => first | (simp; done) | (simp; omega) | omega) | refine bstep (by assumption) (by first | (simp; done) | (simp; omega) | omega) ?_)⟩)
theorem l04Form_any (p : P12) (a1 a2 a3 : Option Addr) (c1 c2 c3 : Nat) (w : World) (hs : p.e.v.s.size ≤ maxLen) (he : p.e.ks.length ≤ maxLen) (hes : p.es.length ≤ maxLen) (hks : p.ks.length ≤ maxLen) :
    Calls Tryz.prog 46 #[(.agg #[.int .i64 p.k, .string p.s, .int .i64 p.e.k, .int .i64 p.e.n, .int .i64 p.e.v.k, .int .i64 p.e.v.n, .string p.e.v.s, .string p.e.p, (.slice a1 p.e.ks.length c1), (.slice a2 p.es.length c2), .int .i64 p.n, (.slice a3 p.ks.length c3)])] w fun x w' => x = .returned (.bool (formP p)) ∧ Below w.heap.size w w' := by
  have hN := fun w2 => l04None_any p.e a1 c1 w2 hs he
  have hK := fun w2 => l04Kids_any p.k w2
  unfold formP
  generalize noneE p.e = bn at *
  generalize kidsK p.k = kk at *
  generalize p.k = k at *
  by_cases h0 : k = 0
  · subst h0; exact l04Form_0 0 _ _ _ _ _ _ _ _ _ _ _ _ w bn kk hes hks hN hK
  by_cases h1 : k = 1
  · subst h1; exact l04Form_1 0 _ _ _ _ _ _ _ _ _ _ _ _ w bn kk hes hks hN hK
  by_cases h2 : k = 2
  · subst h2; exact l04Form_2 0 _ _ _ _ _ _ _ _ _ _ _ _ w bn kk hes hks hN hK
  by_cases h3 : k = 3
  · subst h3; exact l04Form_3 0 _ _ _ _ _ _ _ _ _ _ _ _ w bn kk hes hks hN hK
  by_cases h4 : k = 4
  · subst h4; exact l04Form_4 0 _ _ _ _ _ _ _ _ _ _ _ _ w bn kk hes hks hN hK
  by_cases h5 : k = 5
  · subst h5; exact l04Form_5 0 _ _ _ _ _ _ _ _ _ _ _ _ w bn kk hes hks hN hK
  by_cases h6 : k = 6
  · subst h6; exact l04Form_6 0 _ _ _ _ _ _ _ _ _ _ _ _ w bn kk hes hks hN hK
  exact l04Form_x k _ _ _ _ _ _ _ _ _ _ _ _ w bn kk hes hks (by simpa using h0) (by simpa using h1) (by simpa using h2) (by simpa using h3) (by simpa using h6) (by simpa using h0) (by simpa using h1) (by simpa using h2) (by simpa using h3) (by simpa using h6) hN hK
end Go.Proofs.YtaeibfipcenhaaaGreatDoor
namespace Go.Proofs.YtaeibfipcenhaaaGreatDoor
open Go.RowKit
set_option linter.unusedVariables false
set_option linter.unusedSimpArgs false
theorem hidW {α : Type} (t : α) : ∃ x, Hid (t = x) := ⟨t, rfl⟩
theorem widthP_form {rs : List R3} {f : Nat} {p : P12} (h : formP p = true) (hk : ∀ q ∈ p.ks, 0 ≤ widthP rs f q) :
    widthP rs (f + 1) p = if (okTop rs p (widthP rs f (p.ks.getD 0 .nil)) (widthP rs f (p.ks.getD 1 .nil)) && decide (outW rs p (widthP rs f (p.ks.getD 0 .nil)) (widthP rs f (p.ks.getD 1 .nil)) ≤ 12)) = true then outW rs p (widthP rs f (p.ks.getD 0 .nil)) (widthP rs f (p.ks.getD 1 .nil)) else -1 := by
  have : (p.ks.all fun q => decide (0 ≤ widthP rs f q)) = true := by simpa using hk
  rw [widthP, h, this]
  rfl
theorem widthP_kid {rs : List R3} {f : Nat} {p q : P12} (h : q ∈ p.ks) (hq : widthP rs f q < 0) : widthP rs (f + 1) p = -1 := by
  have : (p.ks.all fun q => decide (0 ≤ widthP rs f q)) = false := by
    rw [List.all_eq_false]
    exact ⟨q, h, by simp; omega⟩
  rw [widthP, this]
  simp
theorem widthP_bad {rs : List R3} {f : Nat} {p : P12} (h : formP p = false) : widthP rs (f + 1) p = -1 := by
  rw [widthP, h]
  simp
section
variable {rs : List R3} {f : Nat} {p : P12} (h : formP p = true) (hk : ∀ q ∈ p.ks, 0 ≤ widthP rs f q)
include h hk
theorem wv_0 (h0 : p.k = 0) : widthP rs (f + 1) p = match relOf rs p.s with | none => -1 | some x => if x.W ≤ 12 then x.W else -1 := by
  rw [widthP_form h hk]
  simp only [okTop, outW, h0, if_true, relW]
  cases hr : relOf rs p.s <;> simp
theorem wv_1 {q : P12} (h0 : p.k = 1) (hq : p.ks = [q]) : widthP rs (f + 1) p = if belowE p.e (widthP rs f q) = true then widthP rs f q else -1 := by
  have := widthP_le rs f q
  rw [widthP_form h hk, hq]
  simp [okTop, outW, h0, this]
theorem wv_2 {q : P12} (h0 : p.k = 2) (hq : p.ks = [q]) : widthP rs (f + 1) p = if (decide (0 < p.es.length) && p.es.all (belowE · (widthP rs f q)) && decide ((p.es.length : Int) ≤ 12)) = true then (p.es.length : Int) else -1 := by
  rw [widthP_form h hk, hq]
  simp [okTop, outW, h0]
theorem wv_3 {q r : P12} (h0 : p.k = 3) (hq : p.ks = [q, r]) : widthP rs (f + 1) p = if (belowE p.e (widthP rs f q + widthP rs f r) && decide (widthP rs f q + widthP rs f r ≤ 12)) = true then widthP rs f q + widthP rs f r else -1 := by
  rw [widthP_form h hk, hq]
  simp [okTop, outW, h0]
theorem wv_4 {q r : P12} (h0 : p.k = 4) (hq : p.ks = [q, r]) : widthP rs (f + 1) p = if widthP rs f q = widthP rs f r then widthP rs f q else -1 := by
  have := widthP_le rs f q
  rw [widthP_form h hk, hq]
  simp [okTop, outW, h0, this]
theorem wv_5 {q : P12} (h0 : p.k = 5) (hq : p.ks = [q]) : widthP rs (f + 1) p = widthP rs f q := by
  have := widthP_le rs f q
  rw [widthP_form h hk, hq]
  simp [okTop, outW, h0, this]
theorem wv_6 {q : P12} (h0 : p.k = 6) (hq : p.ks = [q]) : widthP rs (f + 1) p = if ((decide (0 ≤ p.n) && decide (p.n ≤ widthP rs f q)) && decide (p.es.length ≤ 1) && p.es.all (belowE · (widthP rs f q)) && decide (p.n + 1 + (p.es.length : Int) ≤ 12)) = true then p.n + 1 + (p.es.length : Int) else -1 := by
  rw [widthP_form h hk, hq]
  simp [okTop, outW, h0]
end
/-- what the cell j of the kids' widths has when k kids are told. -/
def kwC (rs : List R3) (f : Nat) (ks : List P12) (k j : Nat) : Int := if j < k then widthP rs f (ks.getD j .nil) else 0
/-- spec.l04Width where f levels may stand. -/
def WdI (rs : List R3) (f : Nat) : Prop := ∀ (p : P12) (ue us u : Value) (g : List Nat) (D d : Nat) (vd : Value) (Fd : List Nat) (w : World), p.wf → ListsP w D (PlansIs w D d) p ue us u g → wtP p ≤ 1048576 → RelsF w vd rs Fd → f ≤ 9 →
    Calls Tryz.prog 30 #[vd, (.agg #[.int .i64 p.k, .string p.s, .int .i64 p.e.k, .int .i64 p.e.n, .int .i64 p.e.v.k, .int .i64 p.e.v.n, .string p.e.v.s, .string p.e.p, ue, us, .int .i64 p.n, u]), .int .i64 ((f : Int) - 1)] w fun x w' => x = .returned (.int .i64 (widthP rs f p)) ∧ Below w.heap.size w w'
set_option maxHeartbeats 2000000 in
set_option maxRecDepth 100000 in
theorem wdI_zero (rs : List R3) : WdI rs 0 := by
  intro p ue us u g D d vd Fd w hw hL hn hR hf
  obtain ⟨ae, ce, ak, ck, a, c, rfl, rfl, rfl, _, _, _, _, _, _⟩ := hL.shape
  obtain ⟨ad, ld, cd, rfl⟩ := hR.is.shape
  rw [widthP]
  clear hL hR hw
  go_enter Tryz.func30, Tryz.ntmps30
  go_wp2
  go_returns
  exact ⟨rfl, by repeat (first | (with_reducible exact Below.refl _ _) | (with_reducible refine Below.drew ?_) | (with_reducible refine Below.alloc ?_ ?hh _; case hh => first | (simp; done) | (simp; omega) | omega) | (with_reducible refine Below.setCell ?_ ?hh _; case hh => first | (simp; done) | (simp; omega) | omega) | refine bstep (by assumption) (by first | (simp; done) | (simp; omega) | omega) ?_)⟩
set_option maxHeartbeats 16000000 in
set_option maxRecDepth 100000 in
theorem wdI_step {rs : List R3} {f : Nat} (ih : WdI rs f) : WdI rs (f + 1) := by
  intro p ue us u g D d vd Fd w hw hL hn hR hf
  have hwt := wtP_eq p
  obtain ⟨a1, c1, a2, c2, a3, c3, rfl, rfl, rfl, s1, s2, s3, s4, s5, s6⟩ := hL.shape
  obtain ⟨ad, ld, cd, rfl⟩ := hR.is.shape
  obtain ⟨Fe, Fs, h, rfl, ke, kes, kp⟩ := hL
  obtain ⟨d, rfl⟩ : ∃ d', d = d' + 1 := by cases d with | zero => exact kp.elim | succ d => exact ⟨d, rfl⟩
  obtain ⟨a, c, b, o, G, e0, hl, hc, hG, _, ha⟩ := kp.pick
  injection e0 with e1 e2 e3
  subst e1 e3
  unfold maxLen at hc
  have hFo := fun w2 => l04Form_any p a1 a2 a3 c1 c2 c3 w2 hw.2.2.1.2.2.1.2.2 (by omega) (by omega) (by unfold maxLen; omega)
  have hE := fun (W : Int) (w2 : World) (hb : Below w.heap.size w w2) => l04Below_any p.e _ Fe D W w2 hw.2.2.1 (ke.below hb) (by omega)
  have hA := fun (W : Int) (w2 : World) (hb : Below w.heap.size w w2) => l04All_any _ p.es Fs D W w2 (kes.below hb) (by omega)
  have hQ := fun (w2 : World) (hb : Below w.heap.size w w2) => l04Rel_any p.s _ rs Fd w2 (hR.below hb)
  have hI := fun (x : P12) (y1 y2 y3 : Value) (gx : List Nat) (w2 : World) (hw2 : x.wf) (hL2 : ListsP w2 D (PlansIs w2 D d) x y1 y2 y3 gx) (hn2 : wtP x ≤ 1048576) (hb : Below w.heap.size w w2) => ih x y1 y2 y3 gx D d _ Fd w2 hw2 hL2 hn2 (hR.below hb) (by omega)
  obtain ⟨dd, HD⟩ := hidW (((f + 1 : Nat) : Int) - 1)
  rw [HD.out]
  have hd0 : 0 ≤ dd := by have := HD.out; omega
  have hd9 : dd ≤ 9 := by have := HD.out; omega
  have hd1 : dd - 1 = (f : Int) - 1 := by have := HD.out; omega
  rw [← hd1] at hI
  have hB := bxP_new w p (.slice a1 p.e.ks.length c1) (.slice a2 p.es.length c2) (.slice a3 p.ks.length c3) 62
  obtain ⟨n0, n1⟩ := wf64 hw.2.2.2
  have hesl : p.es.length ≤ 1048576 := by omega
  obtain ⟨bo, HO⟩ : ∃ b, Hid (formP p = b) := ⟨_, rfl⟩
  rw [HO.out] at hFo
  clear hd1 ke kes hR ih HD s1 s2 s3 s4 s5 s6
  obtain ⟨r, HR⟩ := hidW (widthP rs (f + 1) p)
  rw [HR.out]
  clear hw
  go_enter Tryz.func30, Tryz.ntmps30
  go_wp2_with fail
  refine Calls.mono (hFo _) ?_
  rintro x w1 ⟨rfl, hb1⟩
  have hB1 := hB.below hb1
  have bel1 : Below w.heap.size w w1 := by repeat (first | (with_reducible exact Below.refl _ _) | (with_reducible refine Below.drew ?_) | (with_reducible refine Below.alloc ?_ ?hh _; case hh => first | (simp; done) | (simp; omega) | omega) | (with_reducible refine Below.setCell ?_ ?hh _; case hh => first | (simp; done) | (simp; omega) | omega) | refine bstep (by assumption) (by first | (simp; done) | (simp; omega) | omega) ?_)
  have hlw : w.heap.size < w1.heap.size := hB1.1
  clear hFo hb1 hB
  cases bo with
  | false =>
    have HF : Hid (r = -1) := HR.out.symm.trans (widthP_bad HO.out)
    clear ha hI hE hA hQ
    go_wp2
    go_returns
    exact ⟨by rw [HF.out]; rfl, by repeat (first | (with_reducible exact Below.refl _ _) | (with_reducible refine Below.drew ?_) | (with_reducible refine Below.alloc ?_ ?hh _; case hh => first | (simp; done) | (simp; omega) | omega) | (with_reducible refine Below.setCell ?_ ?hh _; case hh => first | (simp; done) | (simp; omega) | omega) | refine bstep (by assumption) (by first | (simp; done) | (simp; omega) | omega) ?_)⟩
  | true =>
    have HF0 : Hid ((p.ks.length : Int) = kidsK p.k) := form_kids HO.out
    have hk2 : p.ks.length ≤ 2 := by
      have := HF0.out
      unfold kidsK at this
      split at this; omega
      split at this; omega
      split at this; omega
      split at this; omega
      split at this; omega
      split at this; omega
      split at this <;> omega
    go_wp2_with fail
    go_loopw [8] (fun i wr => ∃ k : Nat, k ≤ p.ks.length ∧ i = .int .i64 k ∧ (∀ q ∈ p.ks.take k, 0 ≤ widthP rs f q) ∧ Below w1.heap.size w1 wr ∧ w1.heap.size < wr.heap.size ∧ wr.cell? ⟨w1.heap.size, 0, none⟩ = some (.int .i64 (kwC rs f p.ks k 0)) ∧ wr.cell? ⟨w1.heap.size, 1, none⟩ = some (.int .i64 (kwC rs f p.ks k 1)) ∧ ∀ q, wr.frozen? ⟨w1.heap.size, q, none⟩ = false) (fun i _ => p.ks.length - (intOf i).toNat)
    case atStart => exact ⟨0, Nat.zero_le _, rfl, fun q hq => by simp at hq, by repeat (first | (with_reducible exact Below.refl _ _) | (with_reducible refine Below.drew ?_) | (with_reducible refine Below.alloc ?_ ?hh _; case hh => first | (simp; done) | (simp; omega) | omega) | (with_reducible refine Below.setCell ?_ ?hh _; case hh => first | (simp; done) | (simp; omega) | omega) | refine bstep (by assumption) (by first | (simp; done) | (simp; omega) | omega) ?_), by simp, by go_simp; rfl, by go_simp; rfl, fun q => by go_simp⟩
    case round =>
      obtain ⟨k, hk, rfl, hpos, hb', hsz, r0, r1, rf⟩ := hrel
      have hBr := hB1.below hb'
      have hb : Below w.heap.size w wr := bel1.trans (hb'.mono bel1.size)
      have hzb := hb.size
      have hzb' := hb'.size
      have HP : Hid (∀ q ∈ p.ks.take k, 0 ≤ widthP rs f q) := hpos
      clear hpos
      by_cases hlt : k < p.ks.length
      · obtain ⟨rfl, hblt, _, hL⟩ := ha k hlt
        obtain ⟨x, g, ue, us, u, hx, hg, hxw, ⟨q0, q1, q2, q3, q4, q5, q6, q7, q8, q9, q10, q11⟩, hLx, hbr⟩ := hL.at hG hblt hb hlt
        obtain ⟨x_e, x_E, x_s, x_S, x_k, x_K, rfl, rfl, rfl, _, _, _, _, _, _⟩ := hLx.shape
        have hxn : wtP x ≤ 1048576 := by have := wtP_mem (List.mem_of_getElem? hx); omega
        have hV := hI x _ _ _ g wr hxw hLx hxn hb
        have HT : Hid (p.ks.take (k + 1) = p.ks.take k ++ [x]) := by
          obtain ⟨hk', rfl⟩ := List.getElem?_eq_some_iff.1 hx
          exact List.take_succ_eq_append_getElem hk'
        have HG : Hid (p.ks.getD k .nil = x) := by show _ = _; rw [List.getD_eq_getElem?_getD, hx]; rfl
        have HM : Hid (x ∈ p.ks) := List.mem_of_getElem? hx
        obtain ⟨vx, HV⟩ := hidW (widthP rs f x)
        rw [HV.out] at hV
        obtain ⟨_, _, _, _, _, _, _, _, _, _, _, _, b11⟩ := hBr
        have hki : (k : Int) < 2 := by omega
        have hk2 : k < 2 := by omega
        clear ha hL hx hLx hg hI hE hA hQ hxw hxn
        obtain ⟨v0, HV0⟩ := hidW (kwC rs f p.ks k 0)
        obtain ⟨v1, HV1⟩ := hidW (kwC rs f p.ks k 1)
        rw [HV0.out] at r0
        rw [HV1.out] at r1
        go_wp2_with fail
        refine Calls.mono hV ?_
        rintro y w2 ⟨rfl, hb2⟩
        have bel2 : Below w1.heap.size w1 w2 := hb'.trans (hb2.mono hb'.size)
        have r0' := ((bcell hb2).1 _ _ hsz).trans r0
        have r1' := ((bcell hb2).1 _ _ hsz).trans r1
        have rf' : ∀ q, w2.frozen? ⟨w1.heap.size, q, none⟩ = false := fun q => (frozen_blk (hb2.block _ hsz)).trans (rf q)
        have hsz2 : w1.heap.size < w2.heap.size := by have := hb2.size; omega
        clear hV hb2 q0 q1 q2 q3 q4 q5 q6 q7 q8 q9 q10 q11 b11 r0 r1 rf
        have hkk : k = 0 ∨ k = 1 := by omega
        by_cases hneg : vx < 0
        · have HF : Hid (r = -1) := HR.out.symm.trans (widthP_kid HM.out (by rw [HV.out]; exact hneg))
          rcases hkk with rfl | rfl
          all_goals (
            simp only [Nat.zero_mul, Nat.add_zero] at *
            go_wp2
            go_returns
            refine ⟨by rw [HF.out]; rfl, ?_⟩
            exact bel1.trans ((show Below w1.heap.size w1 _ by repeat (first | (with_reducible exact Below.refl _ _) | (with_reducible refine Below.drew ?_) | (with_reducible refine Below.alloc ?_ ?hh _; case hh => first | (simp; done) | (simp; omega) | omega) | (with_reducible refine Below.setCell ?_ ?hh _; case hh => first | (simp; done) | (simp; omega) | omega) | refine bstep (by assumption) (by first | (simp; done) | (simp; omega) | omega) ?_)).mono bel1.size))
        · have hnn : 0 ≤ vx := by omega
          have HN : Hid (∀ q ∈ p.ks.take (k + 1), 0 ≤ widthP rs f q) := by
            show ∀ q ∈ _, _
            rw [HT.out]
            intro q hq
            rcases List.mem_append.1 hq with hq | hq
            · exact HP.out q hq
            · rw [List.mem_singleton.1 hq, HV.out]; exact hnn
          rcases hkk with rfl | rfl
          · have e0 : kwC rs f p.ks (0 + 1) 0 = vx := by unfold kwC; rw [if_pos (by omega), HG.out, HV.out]
            have e1 : kwC rs f p.ks (0 + 1) 1 = v1 := by rw [← HV1.out]; rfl
            have E0 : Hid (kwC rs f p.ks (0 + 1) 0 = vx) := e0
            have E1 : Hid (kwC rs f p.ks (0 + 1) 1 = v1) := e1
            clear e0 e1
            go_wp2_with fail
            refine ⟨⟨0 + 1, hlt, by simp, HN.out, by repeat (first | (with_reducible exact Below.refl _ _) | (with_reducible refine Below.drew ?_) | (with_reducible refine Below.alloc ?_ ?hh _; case hh => first | (simp; done) | (simp; omega) | omega) | (with_reducible refine Below.setCell ?_ ?hh _; case hh => first | (simp; done) | (simp; omega) | omega) | refine bstep (by assumption) (by first | (simp; done) | (simp; omega) | omega) ?_), by simpa using hsz2, ?_, ?_, fun q => by go_simp⟩, by simp [intOf]; omega⟩
            · rw [E0.out]; go_simp
            · rw [E1.out]; go_simp
          · have e0 : kwC rs f p.ks (1 + 1) 0 = v0 := by rw [← HV0.out]; rfl
            have e1 : kwC rs f p.ks (1 + 1) 1 = vx := by unfold kwC; rw [if_pos (by omega), HG.out, HV.out]
            have E0 : Hid (kwC rs f p.ks (1 + 1) 0 = v0) := e0
            have E1 : Hid (kwC rs f p.ks (1 + 1) 1 = vx) := e1
            clear e0 e1
            go_wp2_with fail
            refine ⟨⟨1 + 1, hlt, by simp, HN.out, by repeat (first | (with_reducible exact Below.refl _ _) | (with_reducible refine Below.drew ?_) | (with_reducible refine Below.alloc ?_ ?hh _; case hh => first | (simp; done) | (simp; omega) | omega) | (with_reducible refine Below.setCell ?_ ?hh _; case hh => first | (simp; done) | (simp; omega) | omega) | refine bstep (by assumption) (by first | (simp; done) | (simp; omega) | omega) ?_), by simpa using hsz2, ?_, ?_, fun q => by go_simp⟩, by simp [intOf]; omega⟩
            · rw [E0.out]; go_simp
            · rw [E1.out]; go_simp
      · obtain rfl : k = p.ks.length := by omega
        have HP2 : Hid (∀ q ∈ p.ks, 0 ≤ widthP rs f q) := by have := HP.out; rw [List.take_length] at this; exact this
        have hkin := kidsK_in (k := p.k) (by have := HF0.out; omega)
        clear ha hI
        obtain ⟨_, b0, b1, b2, b3, b4, b5, b6, b7, b8, b9, b10, b11⟩ := hBr
        rcases hkin with h0 | h0 | h0 | h0 | h0 | h0 | h0
        · -- kind 0
          have HY : Hid (r = match relOf rs p.s with | none => -1 | some x => if x.W ≤ 12 then x.W else -1) := HR.out.symm.trans (wv_0 HO.out HP2.out h0)
          clear HR HF0 HP2 HP HO hE hA
          have k0 : (p.k == 0) = true := by rw [h0]; rfl
          have k1 : (p.k == 1) = false := by rw [h0]; rfl
          have k2 : (p.k == 2) = false := by rw [h0]; rfl
          have k3 : (p.k == 3) = false := by rw [h0]; rfl
          have k4 : (p.k == 4) = false := by rw [h0]; rfl
          have k5 : (p.k == 5) = false := by rw [h0]; rfl
          have k6 : (p.k == 6) = false := by rw [h0]; rfl
          clear h0
          cases hr : relOf rs p.s with
          | none =>
            have HX : Hid (r = -1) := by show _ = _; rw [HY.out, hr]
            simp only [hr, Option.isSome_none] at hQ
            clear HY hr
            go_wp2_with fail
            refine Calls.mono (hQ _ hb) ?_
            rintro y w3 ⟨⟨W3, u3, rfl, ⟨au, lu, cu, rfl⟩, hr3⟩, hb3⟩
            have bel3 : Below w.heap.size w w3 := hb.trans (hb3.mono hzb)
            have hz3 := bel3.size
            clear hr3 hb3
            go_wp2
            go_returns
            exact ⟨by rw [HX.out]; rfl, by repeat (first | (with_reducible exact Below.refl _ _) | (with_reducible refine Below.drew ?_) | (with_reducible refine Below.alloc ?_ ?hh _; case hh => first | (simp; done) | (simp; omega) | omega) | (with_reducible refine Below.setCell ?_ ?hh _; case hh => first | (simp; done) | (simp; omega) | omega) | refine bstep (by assumption) (by first | (simp; done) | (simp; omega) | omega) ?_)⟩
          | some x =>
            have HX : Hid (r = if x.W ≤ 12 then x.W else -1) := by show _ = _; rw [HY.out, hr]
            simp only [hr, Option.isSome_some] at hQ
            clear HY hr
            go_wp2_with fail
            refine Calls.mono (hQ _ hb) ?_
            rintro y w3 ⟨⟨W3, u3, rfl, ⟨au, lu, cu, rfl⟩, hr3⟩, hb3⟩
            have bel3 : Below w.heap.size w w3 := hb.trans (hb3.mono hzb)
            have hz3 := bel3.size
            obtain ⟨e3, _⟩ := hr3 x rfl
            subst e3
            clear hr3 hb3
            by_cases hx : x.W ≤ 12
            · have hx' : ¬ 12 < x.W := by omega
              have HX2 : Hid (r = x.W) := by show _ = _; rw [HX.out, if_pos hx]
              go_wp2
              go_returns
              exact ⟨by rw [HX2.out]; rfl, by repeat (first | (with_reducible exact Below.refl _ _) | (with_reducible refine Below.drew ?_) | (with_reducible refine Below.alloc ?_ ?hh _; case hh => first | (simp; done) | (simp; omega) | omega) | (with_reducible refine Below.setCell ?_ ?hh _; case hh => first | (simp; done) | (simp; omega) | omega) | refine bstep (by assumption) (by first | (simp; done) | (simp; omega) | omega) ?_)⟩
            · have hx' : 12 < x.W := by omega
              have HX2 : Hid (r = -1) := by show _ = _; rw [HX.out, if_neg hx]
              go_wp2
              go_returns
              exact ⟨by rw [HX2.out]; rfl, by repeat (first | (with_reducible exact Below.refl _ _) | (with_reducible refine Below.drew ?_) | (with_reducible refine Below.alloc ?_ ?hh _; case hh => first | (simp; done) | (simp; omega) | omega) | (with_reducible refine Below.setCell ?_ ?hh _; case hh => first | (simp; done) | (simp; omega) | omega) | refine bstep (by assumption) (by first | (simp; done) | (simp; omega) | omega) ?_)⟩
        · -- kind 1
          have hf0 := HF0.out
          rw [h0] at hf0
          obtain ⟨q, hq⟩ := one_kid hf0
          have e0 : kwC rs f p.ks p.ks.length 0 = widthP rs f q := by rw [hq]; rfl
          rw [e0] at r0
          have HZ := HR.out.symm.trans (wv_1 HO.out HP2.out h0 hq)
          have hv12 := widthP_le rs f q
          have hv0 : 0 ≤ widthP rs f q := HP2.out q (by rw [hq]; simp)
          clear hf0 e0
          clear HR
          generalize widthP rs f q = v at *
          have k0 : (p.k == 0) = false := by rw [h0]; rfl
          have k1 : (p.k == 1) = true := by rw [h0]; rfl
          have k2 : (p.k == 2) = false := by rw [h0]; rfl
          have k3 : (p.k == 3) = false := by rw [h0]; rfl
          have k4 : (p.k == 4) = false := by rw [h0]; rfl
          have k5 : (p.k == 5) = false := by rw [h0]; rfl
          have k6 : (p.k == 6) = false := by rw [h0]; rfl
          clear h0 HF0 HP2 HP HO hq hA hQ
          have hE' := fun w2 hb => hE v w2 hb
          obtain ⟨bb, HBB⟩ := hidW (belowE p.e v)
          rw [HBB.out] at HZ
          rw [HBB.out] at hE'
          have hv' : ¬ 12 < v := by omega
          clear hE
          have HY : Hid (_) := HZ
          clear HZ
          go_wp2_with fail
          first | go_region_held3 (fun w' => w'.cell? ⟨w.heap.size, 2, none⟩ = some (.int .i64 p.e.k) ∧ w'.cell? ⟨w.heap.size, 3, none⟩ = some (.int .i64 p.e.n) ∧ w'.cell? ⟨w.heap.size, 4, none⟩ = some (.int .i64 p.e.v.k) ∧ w'.cell? ⟨w.heap.size, 5, none⟩ = some (.int .i64 p.e.v.n) ∧ w'.cell? ⟨w.heap.size, 6, none⟩ = some (.string p.e.v.s) ∧ w'.cell? ⟨w.heap.size, 7, none⟩ = some (.string p.e.p) ∧ w'.cell? ⟨w.heap.size, 8, none⟩ = some (.slice a1 p.e.ks.length c1) ∧ w'.cell? ⟨w1.heap.size, 0, none⟩ = some (.int .i64 v)) (refine ⟨?_, ?_, ?_, ?_, ?_, ?_, ?_, ?_⟩ <;> first | (with_reducible assumption) | (go_simp; done) | (exact cell_later (by assumption) (by go_simp))) (first | (go_at_call 47; refine Calls.mono (hE' _ (by repeat (first | (with_reducible exact Below.refl _ _) | (with_reducible refine Below.drew ?_) | (with_reducible refine Below.alloc ?_ ?hh _; case hh => first | (simp; done) | (simp; omega) | omega) | (with_reducible refine Below.setCell ?_ ?hh _; case hh => first | (simp; done) | (simp; omega) | omega) | refine bstep (by assumption) (by first | (simp; done) | (simp; omega) | omega) ?_))) ?_; rintro y w3 ⟨rfl, hb3⟩; have hz3 := hb3.size; (try simp at hz3))) | fail
          cases bb <;> (go_wp2; go_returns; exact ⟨by rw [HY.out]; first | rfl | (rw [hm2]; rfl) | (rw [hm1]; rfl) | (rw [hm1, hm2]; rfl), by repeat (first | (with_reducible exact Below.refl _ _) | (with_reducible refine Below.drew ?_) | (with_reducible refine Below.alloc ?_ ?hh _; case hh => first | (simp; done) | (simp; omega) | omega) | (with_reducible refine Below.setCell ?_ ?hh _; case hh => first | (simp; done) | (simp; omega) | omega) | refine bstep (by assumption) (by first | (simp; done) | (simp; omega) | omega) ?_)⟩)
        · -- kind 2
          have hf0 := HF0.out
          rw [h0] at hf0
          obtain ⟨q, hq⟩ := one_kid hf0
          have e0 : kwC rs f p.ks p.ks.length 0 = widthP rs f q := by rw [hq]; rfl
          rw [e0] at r0
          have HZ := HR.out.symm.trans (wv_2 HO.out HP2.out h0 hq)
          have hv12 := widthP_le rs f q
          have hv0 : 0 ≤ widthP rs f q := HP2.out q (by rw [hq]; simp)
          clear hf0 e0
          clear HR
          generalize widthP rs f q = v at *
          have k0 : (p.k == 0) = false := by rw [h0]; rfl
          have k1 : (p.k == 1) = false := by rw [h0]; rfl
          have k2 : (p.k == 2) = true := by rw [h0]; rfl
          have k3 : (p.k == 3) = false := by rw [h0]; rfl
          have k4 : (p.k == 4) = false := by rw [h0]; rfl
          have k5 : (p.k == 5) = false := by rw [h0]; rfl
          have k6 : (p.k == 6) = false := by rw [h0]; rfl
          clear h0 HF0 HP2 HP HO hq hE hQ
          have hA' := fun w2 hb => hA v w2 hb
          obtain ⟨bb, HBB⟩ := hidW (p.es.all (belowE · v))
          rw [HBB.out] at HZ
          rw [HBB.out] at hA'
          clear hA
          generalize p.es.length = m at *
          by_cases hm0 : 0 < m
          · have hm1 : decide (0 < m) = true := by simp; omega
            have hm0i : (0 : Int) < (m : Int) := by omega
            rw [hm1, Bool.true_and] at HZ
            have HY : Hid (_) := HZ
            clear HZ
            go_wp2_with fail
            first | go_region_held3 (fun w' => w'.cell? ⟨w.heap.size, 9, none⟩ = some (.slice a2 m c2) ∧ w'.cell? ⟨w1.heap.size, 0, none⟩ = some (.int .i64 v)) (refine ⟨?_, ?_⟩ <;> first | (with_reducible assumption) | (go_simp; done) | (exact cell_later (by assumption) (by go_simp))) (first | (go_at_call 48; refine Calls.mono (hA' _ (by repeat (first | (with_reducible exact Below.refl _ _) | (with_reducible refine Below.drew ?_) | (with_reducible refine Below.alloc ?_ ?hh _; case hh => first | (simp; done) | (simp; omega) | omega) | (with_reducible refine Below.setCell ?_ ?hh _; case hh => first | (simp; done) | (simp; omega) | omega) | refine bstep (by assumption) (by first | (simp; done) | (simp; omega) | omega) ?_))) ?_; rintro y w3 ⟨rfl, hb3⟩; have hz3 := hb3.size; (try simp at hz3))) | fail
            by_cases hm12 : (12 : Int) < (m : Int)
            · have hm2 : decide ((m : Int) ≤ 12) = false := by simp; omega
              cases bb <;> (go_wp2; go_returns; exact ⟨by rw [HY.out]; first | rfl | (rw [hm2]; rfl) | (rw [hm1]; rfl) | (rw [hm1, hm2]; rfl), by repeat (first | (with_reducible exact Below.refl _ _) | (with_reducible refine Below.drew ?_) | (with_reducible refine Below.alloc ?_ ?hh _; case hh => first | (simp; done) | (simp; omega) | omega) | (with_reducible refine Below.setCell ?_ ?hh _; case hh => first | (simp; done) | (simp; omega) | omega) | refine bstep (by assumption) (by first | (simp; done) | (simp; omega) | omega) ?_)⟩)
            · have hm2 : decide ((m : Int) ≤ 12) = true := by simp; omega
              cases bb <;> (go_wp2; go_returns; exact ⟨by rw [HY.out]; first | rfl | (rw [hm2]; rfl) | (rw [hm1]; rfl) | (rw [hm1, hm2]; rfl), by repeat (first | (with_reducible exact Below.refl _ _) | (with_reducible refine Below.drew ?_) | (with_reducible refine Below.alloc ?_ ?hh _; case hh => first | (simp; done) | (simp; omega) | omega) | (with_reducible refine Below.setCell ?_ ?hh _; case hh => first | (simp; done) | (simp; omega) | omega) | refine bstep (by assumption) (by first | (simp; done) | (simp; omega) | omega) ?_)⟩)
          · have hm1 : decide (0 < m) = false := by simp; omega
            have hm0i : ¬ (0 : Int) < (m : Int) := by omega
            rw [hm1, Bool.false_and, Bool.false_and] at HZ
            have HY : Hid (_) := HZ
            clear HZ
            go_wp2_with fail
            refine wp_region_held_drew (S := (fun w' => w'.cell? ⟨w.heap.size, 9, none⟩ = some (.slice a2 m c2) ∧ w'.cell? ⟨w1.heap.size, 0, none⟩ = some (.int .i64 v))) (by kernel_rfl) ?_ (fun hHeld => ?_)
            · (try dsimp only); refine ⟨?_, ?_⟩ <;> first | (with_reducible assumption) | (go_simp; done) | (exact cell_later (by assumption) (by go_simp))
            refine takeYes (i := 0) (d := 72) (v := ?_) rfl rfl (by kernel_rfl) (by kernel_rfl) (by kernel_rfl) (fun _ _ _ h => h) (by rfl) (by assumption) ?_ ?_
            rotate_left
            · intro w' hSw; (try dsimp only at hSw); go_simp; try exact rfl
            try simp only [List.setIfInBounds_toArray, List.set_cons_zero, List.set_cons_succ]
            refine takeYes (i := 1) (d := 73) (v := ?_) rfl rfl (by kernel_rfl) (by kernel_rfl) (by kernel_rfl) (fun _ _ _ h => h) (by rfl) (by assumption) ?_ ?_
            rotate_left
            · intro w' hSw; (try dsimp only at hSw); go_simp; try exact rfl
            try simp only [List.setIfInBounds_toArray, List.set_cons_zero, List.set_cons_succ]
            refine takeYes (i := 2) (d := 74) (v := ?_) rfl rfl (by kernel_rfl) (by kernel_rfl) (by kernel_rfl) (fun _ _ _ h => h) (by rfl) (by assumption) ?_ ?_
            rotate_left
            · intro w' hSw; (try dsimp only at hSw); go_simp; try exact rfl
            try simp only [List.setIfInBounds_toArray, List.set_cons_zero, List.set_cons_succ]
            refine takeYes (i := 3) (d := 75) (v := ?_) rfl rfl (by kernel_rfl) (by kernel_rfl) (by kernel_rfl) (fun _ _ _ h => h) (by rfl) (by assumption) ?_ ?_
            rotate_left
            · intro w' hSw; (try dsimp only at hSw); go_simp; try exact rfl
            try simp only [List.setIfInBounds_toArray, List.set_cons_zero, List.set_cons_succ]
            refine takeYes (i := 4) (d := 76) (v := ?_) rfl rfl (by kernel_rfl) (by kernel_rfl) (by kernel_rfl) (fun _ _ _ h => h) (by rfl) (by assumption) ?_ ?_
            rotate_left
            · intro w' hSw; (try dsimp only at hSw); go_simp; try exact rfl
            try simp only [List.setIfInBounds_toArray, List.set_cons_zero, List.set_cons_succ]
            refine takeYes (i := 5) (d := 77) (v := ?_) rfl rfl (by kernel_rfl) (by kernel_rfl) (by kernel_rfl) (fun _ _ _ h => h) (by rfl) (by assumption) ?_ ?_
            rotate_left
            · intro w' hSw; (try dsimp only at hSw); go_simp; try exact rfl
            try simp only [List.setIfInBounds_toArray, List.set_cons_zero, List.set_cons_succ]
            refine takeYes (i := 6) (d := 78) (v := ?_) rfl rfl (by kernel_rfl) (by kernel_rfl) (by kernel_rfl) (fun _ _ _ h => h) (by rfl) (by assumption) ?_ ?_
            rotate_left
            · intro w' hSw; (try dsimp only at hSw); go_simp; try exact rfl
            try simp only [List.setIfInBounds_toArray, List.set_cons_zero, List.set_cons_succ]
            refine takeYes (i := 7) (d := 79) (v := ?_) rfl rfl (by kernel_rfl) (by kernel_rfl) (by kernel_rfl) (fun _ _ _ h => h) (by rfl) (by assumption) ?_ ?_
            rotate_left
            · intro w' hSw; (try dsimp only at hSw); go_simp; try exact rfl
            try simp only [List.setIfInBounds_toArray, List.set_cons_zero, List.set_cons_succ]
            refine takeNo (i := 8) (d := 80) rfl rfl (by kernel_rfl) (by kernel_rfl) (by kernel_rfl) (fun _ _ _ h => h) (by rfl) (by assumption) ?_
            try simp only [List.setIfInBounds_toArray, List.set_cons_zero, List.set_cons_succ]
            refine takeNo (i := 9) (d := 81) rfl rfl (by kernel_rfl) (by kernel_rfl) (by kernel_rfl) (fun _ _ _ h => h) (by rfl) (by assumption) ?_
            try simp only [List.setIfInBounds_toArray, List.set_cons_zero, List.set_cons_succ]
            refine takeNo (i := 10) (d := 82) rfl rfl (by kernel_rfl) (by kernel_rfl) (by kernel_rfl) (fun _ _ _ h => h) (by rfl) (by assumption) ?_
            try simp only [List.setIfInBounds_toArray, List.set_cons_zero, List.set_cons_succ]
            refine takeNo (i := 11) (d := 83) rfl rfl (by kernel_rfl) (by kernel_rfl) (by kernel_rfl) (fun _ _ _ h => h) (by rfl) (by assumption) ?_
            try simp only [List.setIfInBounds_toArray, List.set_cons_zero, List.set_cons_succ]
            refine takeNo (i := 12) (d := 84) rfl rfl (by kernel_rfl) (by kernel_rfl) (by kernel_rfl) (fun _ _ _ h => h) (by rfl) (by assumption) ?_
            try simp only [List.setIfInBounds_toArray, List.set_cons_zero, List.set_cons_succ]
            refine takeNo (i := 13) (d := 85) rfl rfl (by kernel_rfl) (by kernel_rfl) (by kernel_rfl) (fun _ _ _ h => h) (by rfl) (by assumption) ?_
            try simp only [List.setIfInBounds_toArray, List.set_cons_zero, List.set_cons_succ]
            refine takeYes (i := 14) (d := 86) (v := ?_) rfl rfl (by kernel_rfl) (by kernel_rfl) (by kernel_rfl) (fun _ _ _ h => h) (by rfl) (by assumption) ?_ ?_
            rotate_left
            · intro w' hSw; (try dsimp only at hSw); go_simp; try exact rfl
            try simp only [List.setIfInBounds_toArray, List.set_cons_zero, List.set_cons_succ]
            refine takeYes (i := 15) (d := 9) (v := ?_) rfl rfl (by kernel_rfl) (by kernel_rfl) (by kernel_rfl) (fun _ _ _ h => h) (by rfl) (by assumption) ?_ ?_
            rotate_left
            · intro w' hSw; (try dsimp only at hSw); go_simp; try exact rfl
            try simp only [List.setIfInBounds_toArray, List.set_cons_zero, List.set_cons_succ]
            refine takeYes (i := 16) (d := 10) (v := ?_) rfl rfl (by kernel_rfl) (by kernel_rfl) (by kernel_rfl) (fun _ _ _ h => h) (by rfl) (by assumption) ?_ ?_
            rotate_left
            · intro w' hSw; (try dsimp only at hSw); go_simp; try exact rfl
            try simp only [List.setIfInBounds_toArray, List.set_cons_zero, List.set_cons_succ]
            refine wpAnyH_done (by kernel_rfl) ?_ _
            go_wp2
            go_returns
            exact ⟨by rw [HY.out]; first | rfl | (rw [hm2]; rfl) | (rw [hm1]; rfl) | (rw [hm1, hm2]; rfl), by repeat (first | (with_reducible exact Below.refl _ _) | (with_reducible refine Below.drew ?_) | (with_reducible refine Below.alloc ?_ ?hh _; case hh => first | (simp; done) | (simp; omega) | omega) | (with_reducible refine Below.setCell ?_ ?hh _; case hh => first | (simp; done) | (simp; omega) | omega) | refine bstep (by assumption) (by first | (simp; done) | (simp; omega) | omega) ?_)⟩
        · -- kind 3
          have hf0 := HF0.out
          rw [h0] at hf0
          obtain ⟨q, r, hq⟩ := two_kids hf0
          have e0 : kwC rs f p.ks p.ks.length 0 = widthP rs f q := by rw [hq]; rfl
          have e1 : kwC rs f p.ks p.ks.length 1 = widthP rs f r := by rw [hq]; rfl
          rw [e0] at r0
          rw [e1] at r1
          have HZ := HR.out.symm.trans (wv_3 HO.out HP2.out h0 hq)
          have hv12 := widthP_le rs f q
          have hu12 := widthP_le rs f r
          have hv0 : 0 ≤ widthP rs f q := HP2.out q (by rw [hq]; simp)
          have hu0 : 0 ≤ widthP rs f r := HP2.out r (by rw [hq]; simp)
          clear hf0 e0 e1
          clear HR
          generalize widthP rs f q = v at *
          generalize widthP rs f r = v2 at *
          have k0 : (p.k == 0) = false := by rw [h0]; rfl
          have k1 : (p.k == 1) = false := by rw [h0]; rfl
          have k2 : (p.k == 2) = false := by rw [h0]; rfl
          have k3 : (p.k == 3) = true := by rw [h0]; rfl
          have k4 : (p.k == 4) = false := by rw [h0]; rfl
          have k5 : (p.k == 5) = false := by rw [h0]; rfl
          have k6 : (p.k == 6) = false := by rw [h0]; rfl
          clear h0 HF0 HP2 HP HO hq hA hQ
          have hE' := fun w2 hb => hE (v + v2) w2 hb
          have hwr : IntKind.i64.wrap (v + v2) = v + v2 := by rw [IntKind.wrap_i64]; omega
          obtain ⟨bb, HBB⟩ := hidW (belowE p.e (v + v2))
          rw [HBB.out] at HZ
          rw [HBB.out] at hE'
          clear hE
          have HY : Hid (_) := HZ
          clear HZ
          go_wp2_with fail
          first | go_region_held3 (fun w' => w'.cell? ⟨w.heap.size, 2, none⟩ = some (.int .i64 p.e.k) ∧ w'.cell? ⟨w.heap.size, 3, none⟩ = some (.int .i64 p.e.n) ∧ w'.cell? ⟨w.heap.size, 4, none⟩ = some (.int .i64 p.e.v.k) ∧ w'.cell? ⟨w.heap.size, 5, none⟩ = some (.int .i64 p.e.v.n) ∧ w'.cell? ⟨w.heap.size, 6, none⟩ = some (.string p.e.v.s) ∧ w'.cell? ⟨w.heap.size, 7, none⟩ = some (.string p.e.p) ∧ w'.cell? ⟨w.heap.size, 8, none⟩ = some (.slice a1 p.e.ks.length c1) ∧ w'.cell? ⟨w1.heap.size, 0, none⟩ = some (.int .i64 v) ∧ w'.cell? ⟨w1.heap.size, 1, none⟩ = some (.int .i64 v2)) (refine ⟨?_, ?_, ?_, ?_, ?_, ?_, ?_, ?_, ?_⟩ <;> first | (with_reducible assumption) | (go_simp; done) | (exact cell_later (by assumption) (by go_simp))) (first | (go_at_call 47; refine Calls.mono (hE' _ (by repeat (first | (with_reducible exact Below.refl _ _) | (with_reducible refine Below.drew ?_) | (with_reducible refine Below.alloc ?_ ?hh _; case hh => first | (simp; done) | (simp; omega) | omega) | (with_reducible refine Below.setCell ?_ ?hh _; case hh => first | (simp; done) | (simp; omega) | omega) | refine bstep (by assumption) (by first | (simp; done) | (simp; omega) | omega) ?_))) ?_; rintro y w3 ⟨rfl, hb3⟩; have hz3 := hb3.size; (try simp at hz3))) | fail
          by_cases hv' : 12 < v + v2
          · have hm2 : decide (v + v2 ≤ 12) = false := by simp; omega
            cases bb <;> (go_wp2; go_returns; exact ⟨by rw [HY.out]; first | rfl | (rw [hm2]; rfl) | (rw [hm1]; rfl) | (rw [hm1, hm2]; rfl), by repeat (first | (with_reducible exact Below.refl _ _) | (with_reducible refine Below.drew ?_) | (with_reducible refine Below.alloc ?_ ?hh _; case hh => first | (simp; done) | (simp; omega) | omega) | (with_reducible refine Below.setCell ?_ ?hh _; case hh => first | (simp; done) | (simp; omega) | omega) | refine bstep (by assumption) (by first | (simp; done) | (simp; omega) | omega) ?_)⟩)
          · have hm2 : decide (v + v2 ≤ 12) = true := by simp; omega
            cases bb <;> (go_wp2; go_returns; exact ⟨by rw [HY.out]; first | rfl | (rw [hm2]; rfl) | (rw [hm1]; rfl) | (rw [hm1, hm2]; rfl), by repeat (first | (with_reducible exact Below.refl _ _) | (with_reducible refine Below.drew ?_) | (with_reducible refine Below.alloc ?_ ?hh _; case hh => first | (simp; done) | (simp; omega) | omega) | (with_reducible refine Below.setCell ?_ ?hh _; case hh => first | (simp; done) | (simp; omega) | omega) | refine bstep (by assumption) (by first | (simp; done) | (simp; omega) | omega) ?_)⟩)
        · -- kind 4
          have hf0 := HF0.out
          rw [h0] at hf0
          obtain ⟨q, r, hq⟩ := two_kids hf0
          have e0 : kwC rs f p.ks p.ks.length 0 = widthP rs f q := by rw [hq]; rfl
          have e1 : kwC rs f p.ks p.ks.length 1 = widthP rs f r := by rw [hq]; rfl
          rw [e0] at r0
          rw [e1] at r1
          have HZ := HR.out.symm.trans (wv_4 HO.out HP2.out h0 hq)
          have hv12 := widthP_le rs f q
          have hu12 := widthP_le rs f r
          have hv0 : 0 ≤ widthP rs f q := HP2.out q (by rw [hq]; simp)
          have hu0 : 0 ≤ widthP rs f r := HP2.out r (by rw [hq]; simp)
          clear hf0 e0 e1
          clear HR
          generalize widthP rs f q = v at *
          generalize widthP rs f r = v2 at *
          have k0 : (p.k == 0) = false := by rw [h0]; rfl
          have k1 : (p.k == 1) = false := by rw [h0]; rfl
          have k2 : (p.k == 2) = false := by rw [h0]; rfl
          have k3 : (p.k == 3) = false := by rw [h0]; rfl
          have k4 : (p.k == 4) = true := by rw [h0]; rfl
          have k5 : (p.k == 5) = false := by rw [h0]; rfl
          have k6 : (p.k == 6) = false := by rw [h0]; rfl
          clear h0 HF0 HP2 HP HO hq hA hQ hE
          have hv' : ¬ 12 < v := by omega
          by_cases hvv : v = v2
          · rw [if_pos hvv] at HZ
            have hvb : (v == v2) = true := by simpa using hvv
            clear hvv
            have HY : Hid (_) := HZ
            clear HZ
            go_wp2_with fail
            first | go_region_held3 (fun w' => w'.cell? ⟨w1.heap.size, 0, none⟩ = some (.int .i64 v) ∧ w'.cell? ⟨w1.heap.size, 1, none⟩ = some (.int .i64 v2)) (refine ⟨?_, ?_⟩ <;> first | (with_reducible assumption) | (go_simp; done) | (exact cell_later (by assumption) (by go_simp))) (first | fail) | fail
            go_wp2
            go_returns
            exact ⟨by rw [HY.out]; first | rfl | (rw [hm2]; rfl) | (rw [hm1]; rfl) | (rw [hm1, hm2]; rfl), by repeat (first | (with_reducible exact Below.refl _ _) | (with_reducible refine Below.drew ?_) | (with_reducible refine Below.alloc ?_ ?hh _; case hh => first | (simp; done) | (simp; omega) | omega) | (with_reducible refine Below.setCell ?_ ?hh _; case hh => first | (simp; done) | (simp; omega) | omega) | refine bstep (by assumption) (by first | (simp; done) | (simp; omega) | omega) ?_)⟩
          · rw [if_neg hvv] at HZ
            have hvb : (v == v2) = false := by simpa using hvv
            clear hvv
            have HY : Hid (_) := HZ
            clear HZ
            go_wp2_with fail
            first | go_region_held3 (fun w' => w'.cell? ⟨w1.heap.size, 0, none⟩ = some (.int .i64 v) ∧ w'.cell? ⟨w1.heap.size, 1, none⟩ = some (.int .i64 v2)) (refine ⟨?_, ?_⟩ <;> first | (with_reducible assumption) | (go_simp; done) | (exact cell_later (by assumption) (by go_simp))) (first | fail) | fail
            go_wp2
            go_returns
            exact ⟨by rw [HY.out]; first | rfl | (rw [hm2]; rfl) | (rw [hm1]; rfl) | (rw [hm1, hm2]; rfl), by repeat (first | (with_reducible exact Below.refl _ _) | (with_reducible refine Below.drew ?_) | (with_reducible refine Below.alloc ?_ ?hh _; case hh => first | (simp; done) | (simp; omega) | omega) | (with_reducible refine Below.setCell ?_ ?hh _; case hh => first | (simp; done) | (simp; omega) | omega) | refine bstep (by assumption) (by first | (simp; done) | (simp; omega) | omega) ?_)⟩
        · -- kind 5
          have hf0 := HF0.out
          rw [h0] at hf0
          obtain ⟨q, hq⟩ := one_kid hf0
          have e0 : kwC rs f p.ks p.ks.length 0 = widthP rs f q := by rw [hq]; rfl
          rw [e0] at r0
          have HZ := HR.out.symm.trans (wv_5 HO.out HP2.out h0 hq)
          have hv12 := widthP_le rs f q
          have hv0 : 0 ≤ widthP rs f q := HP2.out q (by rw [hq]; simp)
          clear hf0 e0
          clear HR
          generalize widthP rs f q = v at *
          have k0 : (p.k == 0) = false := by rw [h0]; rfl
          have k1 : (p.k == 1) = false := by rw [h0]; rfl
          have k2 : (p.k == 2) = false := by rw [h0]; rfl
          have k3 : (p.k == 3) = false := by rw [h0]; rfl
          have k4 : (p.k == 4) = false := by rw [h0]; rfl
          have k5 : (p.k == 5) = true := by rw [h0]; rfl
          have k6 : (p.k == 6) = false := by rw [h0]; rfl
          clear h0 HF0 HP2 HP HO hq hA hQ hE
          have hv' : ¬ 12 < v := by omega
          have HY : Hid (_) := HZ
          clear HZ
          go_wp2
          go_returns
          exact ⟨by rw [HY.out]; first | rfl | (rw [hm2]; rfl) | (rw [hm1]; rfl) | (rw [hm1, hm2]; rfl), by repeat (first | (with_reducible exact Below.refl _ _) | (with_reducible refine Below.drew ?_) | (with_reducible refine Below.alloc ?_ ?hh _; case hh => first | (simp; done) | (simp; omega) | omega) | (with_reducible refine Below.setCell ?_ ?hh _; case hh => first | (simp; done) | (simp; omega) | omega) | refine bstep (by assumption) (by first | (simp; done) | (simp; omega) | omega) ?_)⟩
        · -- kind 6
          have hf0 := HF0.out
          rw [h0] at hf0
          obtain ⟨q, hq⟩ := one_kid hf0
          have e0 : kwC rs f p.ks p.ks.length 0 = widthP rs f q := by rw [hq]; rfl
          rw [e0] at r0
          have HZ := HR.out.symm.trans (wv_6 HO.out HP2.out h0 hq)
          have hv12 := widthP_le rs f q
          have hv0 : 0 ≤ widthP rs f q := HP2.out q (by rw [hq]; simp)
          clear hf0 e0
          clear HR
          generalize widthP rs f q = v at *
          have k0 : (p.k == 0) = false := by rw [h0]; rfl
          have k1 : (p.k == 1) = false := by rw [h0]; rfl
          have k2 : (p.k == 2) = false := by rw [h0]; rfl
          have k3 : (p.k == 3) = false := by rw [h0]; rfl
          have k4 : (p.k == 4) = false := by rw [h0]; rfl
          have k5 : (p.k == 5) = false := by rw [h0]; rfl
          have k6 : (p.k == 6) = true := by rw [h0]; rfl
          clear h0 HF0 HP2 HP HO hq hE hQ
          have hA' := fun w2 hb => hA v w2 hb
          obtain ⟨bb, HBB⟩ := hidW (p.es.all (belowE · v))
          rw [HBB.out] at HZ
          rw [HBB.out] at hA'
          clear hA
          generalize p.es.length = m at *
          have hN := fun w2 (hb : Below w.heap.size w w2) => l01In_is p.n 0 v w2
          obtain ⟨bn, HBN⟩ := hidW (decide (0 ≤ p.n) && decide (p.n ≤ v))
          rw [HBN.out] at HZ
          rw [HBN.out] at hN
          generalize p.n = n at *
          cases bn with
          | false =>
            simp only [Bool.false_and] at HZ
            have HY : Hid (_) := HZ
            clear HZ
            go_wp2_with fail
            refine wp_region_held_drew (S := (fun w' => w'.cell? ⟨w.heap.size, 10, none⟩ = some (.int .i64 n) ∧ w'.cell? ⟨w.heap.size, 9, none⟩ = some (.slice a2 m c2) ∧ w'.cell? ⟨w1.heap.size, 0, none⟩ = some (.int .i64 v))) (by kernel_rfl) ?_ (fun hHeld => ?_)
            · (try dsimp only); refine ⟨?_, ?_, ?_⟩ <;> first | (with_reducible assumption) | (go_simp; done) | (exact cell_later (by assumption) (by go_simp))
            refine takeYes (i := 0) (d := 117) (v := ?_) rfl rfl (by kernel_rfl) (by kernel_rfl) (by kernel_rfl) (fun _ _ _ h => h) (by rfl) (by assumption) ?_ ?_
            rotate_left
            · intro w' hSw; (try dsimp only at hSw); go_simp; try exact rfl
            try simp only [List.setIfInBounds_toArray, List.set_cons_zero, List.set_cons_succ]
            refine takeYes (i := 1) (d := 118) (v := ?_) rfl rfl (by kernel_rfl) (by kernel_rfl) (by kernel_rfl) (fun _ _ _ h => h) (by rfl) (by assumption) ?_ ?_
            rotate_left
            · intro w' hSw; (try dsimp only at hSw); go_simp; try exact rfl
            try simp only [List.setIfInBounds_toArray, List.set_cons_zero, List.set_cons_succ]
            refine takeYes (i := 2) (d := 119) (v := ?_) rfl rfl (by kernel_rfl) (by kernel_rfl) (by kernel_rfl) (fun _ _ _ h => h) (by rfl) (by assumption) ?_ ?_
            rotate_left
            · intro w' hSw; (try dsimp only at hSw); go_simp; try exact rfl
            try simp only [List.setIfInBounds_toArray, List.set_cons_zero, List.set_cons_succ]
            refine takeYes (i := 3) (d := 120) (v := ?_) rfl rfl (by kernel_rfl) (by kernel_rfl) (by kernel_rfl) (fun _ _ _ h => h) (by rfl) (by assumption) ?_ ?_
            rotate_left
            · intro w' hSw; (try dsimp only at hSw); go_simp; try exact rfl
            try simp only [List.setIfInBounds_toArray, List.set_cons_zero, List.set_cons_succ]
            refine takeYes (i := 4) (d := 121) (v := ?_) rfl rfl (by kernel_rfl) (by kernel_rfl) (by kernel_rfl) (fun _ _ _ h => h) (by rfl) (by assumption) ?_ ?_
            rotate_left
            · intro w' hSw; (try dsimp only at hSw); go_simp; try exact rfl
            try simp only [List.setIfInBounds_toArray, List.set_cons_zero, List.set_cons_succ]
            refine takeYes (i := 5) (d := 122) (v := ?_) rfl rfl (by kernel_rfl) (by kernel_rfl) (by kernel_rfl) (fun _ _ _ h => h) (by rfl) (by assumption) ?_ ?_
            rotate_left
            · intro w' hSw; (try dsimp only at hSw); go_simp; try exact rfl
            try simp only [List.setIfInBounds_toArray, List.set_cons_zero, List.set_cons_succ]
            refine takeYes (i := 6) (d := 123) (v := ?_) rfl rfl (by kernel_rfl) (by kernel_rfl) (by kernel_rfl) (fun _ _ _ h => h) (by rfl) (by assumption) ?_ ?_
            rotate_left
            · intro w' hSw; (try dsimp only at hSw); go_simp; try exact rfl
            try simp only [List.setIfInBounds_toArray, List.set_cons_zero, List.set_cons_succ]
            refine takeYes (i := 7) (d := 124) (v := ?_) rfl rfl (by kernel_rfl) (by kernel_rfl) (by kernel_rfl) (fun _ _ _ h => h) (by rfl) (by assumption) ?_ ?_
            rotate_left
            · intro w' hSw; (try dsimp only at hSw); go_simp; try exact rfl
            try simp only [List.setIfInBounds_toArray, List.set_cons_zero, List.set_cons_succ]
            refine takeYes (i := 8) (d := 125) (v := ?_) rfl rfl (by kernel_rfl) (by kernel_rfl) (by kernel_rfl) (fun _ _ _ h => h) (by rfl) (by assumption) ?_ ?_
            rotate_left
            · intro w' hSw; (try dsimp only at hSw); go_simp; try exact rfl
            try simp only [List.setIfInBounds_toArray, List.set_cons_zero, List.set_cons_succ]
            refine takeYes (i := 9) (d := 126) (v := ?_) rfl rfl (by kernel_rfl) (by kernel_rfl) (by kernel_rfl) (fun _ _ _ h => h) (by rfl) (by assumption) ?_ ?_
            rotate_left
            · intro w' hSw; (try dsimp only at hSw); go_simp; try exact rfl
            try simp only [List.setIfInBounds_toArray, List.set_cons_zero, List.set_cons_succ]
            refine takeYes (i := 10) (d := 127) (v := ?_) rfl rfl (by kernel_rfl) (by kernel_rfl) (by kernel_rfl) (fun _ _ _ h => h) (by rfl) (by assumption) ?_ ?_
            rotate_left
            · intro w' hSw; (try dsimp only at hSw); go_simp; try exact rfl
            try simp only [List.setIfInBounds_toArray, List.set_cons_zero, List.set_cons_succ]
            refine takeYes (i := 11) (d := 128) (v := ?_) rfl rfl (by kernel_rfl) (by kernel_rfl) (by kernel_rfl) (fun _ _ _ h => h) (by rfl) (by assumption) ?_ ?_
            rotate_left
            · intro w' hSw; (try dsimp only at hSw); go_simp; try exact rfl
            try simp only [List.setIfInBounds_toArray, List.set_cons_zero, List.set_cons_succ]
            refine wpAnyH_ready (rs := [12]) (by kernel_rfl) (by simp) ?_
            refine AllReadyH.cons rfl (fun KK hKK => ?_) AllReadyH.nil
            go_simp
            go_at_call 29
            refine Calls.mono (hN _ (by repeat (first | (with_reducible exact Below.refl _ _) | (with_reducible refine Below.drew ?_) | (with_reducible refine Below.alloc ?_ ?hh _; case hh => first | (simp; done) | (simp; omega) | omega) | (with_reducible refine Below.setCell ?_ ?hh _; case hh => first | (simp; done) | (simp; omega) | omega) | refine bstep (by assumption) (by first | (simp; done) | (simp; omega) | omega) ?_))) ?_
            rintro y w3 ⟨rfl, hb3⟩
            have hz3 := hb3.size
            (try simp at hz3)
            try go_wp2_with fail
            refine hKK.out _ _ ?_ (fun hHeld12 => ?_)
            · (try dsimp only); refine ⟨?_, ?_, ?_⟩ <;> first | (with_reducible assumption) | (go_simp; done) | (exact cell_later (by assumption) (by go_simp))
            clear hKK
            refine takeYes (i := 13) (d := 130) (v := ?_) rfl rfl (by kernel_rfl) (by kernel_rfl) (by kernel_rfl) (fun _ _ _ h => h) (by rfl) (by assumption) ?_ ?_
            rotate_left
            · intro w' hSw; (try dsimp only at hSw); go_simp; try exact rfl
            try simp only [List.setIfInBounds_toArray, List.set_cons_zero, List.set_cons_succ]
            refine takeNo (i := 14) (d := 131) rfl rfl (by kernel_rfl) (by kernel_rfl) (by kernel_rfl) (fun _ _ _ h => h) (by rfl) (by assumption) ?_
            try simp only [List.setIfInBounds_toArray, List.set_cons_zero, List.set_cons_succ]
            refine takeNo (i := 15) (d := 132) rfl rfl (by kernel_rfl) (by kernel_rfl) (by kernel_rfl) (fun _ _ _ h => h) (by rfl) (by assumption) ?_
            try simp only [List.setIfInBounds_toArray, List.set_cons_zero, List.set_cons_succ]
            refine takeNo (i := 16) (d := 133) rfl rfl (by kernel_rfl) (by kernel_rfl) (by kernel_rfl) (fun _ _ _ h => h) (by rfl) (by assumption) ?_
            try simp only [List.setIfInBounds_toArray, List.set_cons_zero, List.set_cons_succ]
            refine takeNo (i := 17) (d := 134) rfl rfl (by kernel_rfl) (by kernel_rfl) (by kernel_rfl) (fun _ _ _ h => h) (by rfl) (by assumption) ?_
            try simp only [List.setIfInBounds_toArray, List.set_cons_zero, List.set_cons_succ]
            refine takeYes (i := 18) (d := 135) (v := ?_) rfl rfl (by kernel_rfl) (by kernel_rfl) (by kernel_rfl) (fun _ _ _ h => h) (by rfl) (by assumption) ?_ ?_
            rotate_left
            · intro w' hSw; (try dsimp only at hSw); go_simp; try exact rfl
            try simp only [List.setIfInBounds_toArray, List.set_cons_zero, List.set_cons_succ]
            refine takeYes (i := 19) (d := 136) (v := ?_) rfl rfl (by kernel_rfl) (by kernel_rfl) (by kernel_rfl) (fun _ _ _ h => h) (by rfl) (by assumption) ?_ ?_
            rotate_left
            · intro w' hSw; (try dsimp only at hSw); go_simp; try exact rfl
            try simp only [List.setIfInBounds_toArray, List.set_cons_zero, List.set_cons_succ]
            refine takeNo (i := 20) (d := 137) rfl rfl (by kernel_rfl) (by kernel_rfl) (by kernel_rfl) (fun _ _ _ h => h) (by rfl) (by assumption) ?_
            try simp only [List.setIfInBounds_toArray, List.set_cons_zero, List.set_cons_succ]
            refine takeNo (i := 21) (d := 138) rfl rfl (by kernel_rfl) (by kernel_rfl) (by kernel_rfl) (fun _ _ _ h => h) (by rfl) (by assumption) ?_
            try simp only [List.setIfInBounds_toArray, List.set_cons_zero, List.set_cons_succ]
            refine takeNo (i := 22) (d := 139) rfl rfl (by kernel_rfl) (by kernel_rfl) (by kernel_rfl) (fun _ _ _ h => h) (by rfl) (by assumption) ?_
            try simp only [List.setIfInBounds_toArray, List.set_cons_zero, List.set_cons_succ]
            refine takeNo (i := 23) (d := 140) rfl rfl (by kernel_rfl) (by kernel_rfl) (by kernel_rfl) (fun _ _ _ h => h) (by rfl) (by assumption) ?_
            try simp only [List.setIfInBounds_toArray, List.set_cons_zero, List.set_cons_succ]
            refine takeNo (i := 24) (d := 141) rfl rfl (by kernel_rfl) (by kernel_rfl) (by kernel_rfl) (fun _ _ _ h => h) (by rfl) (by assumption) ?_
            try simp only [List.setIfInBounds_toArray, List.set_cons_zero, List.set_cons_succ]
            refine takeNo (i := 25) (d := 142) rfl rfl (by kernel_rfl) (by kernel_rfl) (by kernel_rfl) (fun _ _ _ h => h) (by rfl) (by assumption) ?_
            try simp only [List.setIfInBounds_toArray, List.set_cons_zero, List.set_cons_succ]
            refine takeYes (i := 26) (d := 143) (v := ?_) rfl rfl (by kernel_rfl) (by kernel_rfl) (by kernel_rfl) (fun _ _ _ h => h) (by rfl) (by assumption) ?_ ?_
            rotate_left
            · intro w' hSw; (try dsimp only at hSw); go_simp; try exact rfl
            try simp only [List.setIfInBounds_toArray, List.set_cons_zero, List.set_cons_succ]
            refine takeYes (i := 27) (d := 9) (v := ?_) rfl rfl (by kernel_rfl) (by kernel_rfl) (by kernel_rfl) (fun _ _ _ h => h) (by rfl) (by assumption) ?_ ?_
            rotate_left
            · intro w' hSw; (try dsimp only at hSw); go_simp; try exact rfl
            try simp only [List.setIfInBounds_toArray, List.set_cons_zero, List.set_cons_succ]
            refine takeYes (i := 28) (d := 10) (v := ?_) rfl rfl (by kernel_rfl) (by kernel_rfl) (by kernel_rfl) (fun _ _ _ h => h) (by rfl) (by assumption) ?_ ?_
            rotate_left
            · intro w' hSw; (try dsimp only at hSw); go_simp; try exact rfl
            try simp only [List.setIfInBounds_toArray, List.set_cons_zero, List.set_cons_succ]
            refine wpAnyH_done (by kernel_rfl) ?_ _
            go_wp2
            go_returns
            exact ⟨by rw [HY.out]; first | rfl | (rw [hm2]; rfl) | (rw [hm1]; rfl) | (rw [hm1, hm2]; rfl), by repeat (first | (with_reducible exact Below.refl _ _) | (with_reducible refine Below.drew ?_) | (with_reducible refine Below.alloc ?_ ?hh _; case hh => first | (simp; done) | (simp; omega) | omega) | (with_reducible refine Below.setCell ?_ ?hh _; case hh => first | (simp; done) | (simp; omega) | omega) | refine bstep (by assumption) (by first | (simp; done) | (simp; omega) | omega) ?_)⟩
          | true =>
            have hbn := HBN.out
            rw [Bool.and_eq_true, decide_eq_true_eq, decide_eq_true_eq] at hbn
            have hn0 : 0 ≤ n := hbn.1
            have hn1 : n ≤ 12 := by omega
            rw [Bool.true_and] at HZ
            clear hbn HBN
            by_cases hm0 : m ≤ 1
            · have hm0i : (m : Int) ≤ 1 := by omega
              have hm1 : decide (m ≤ 1) = true := by simp; omega
              rw [hm1, Bool.true_and] at HZ
              have hw1 : IntKind.i64.wrap (n + 1) = n + 1 := by rw [IntKind.wrap_i64]; omega
              have hw2 : IntKind.i64.wrap (n + 1 + (m : Int)) = n + 1 + (m : Int) := by rw [IntKind.wrap_i64]; omega
              have HY : Hid (_) := HZ
              clear HZ
              go_wp2_with fail
              first | go_region_held3 (fun w' => w'.cell? ⟨w.heap.size, 10, none⟩ = some (.int .i64 n) ∧ w'.cell? ⟨w.heap.size, 9, none⟩ = some (.slice a2 m c2) ∧ w'.cell? ⟨w1.heap.size, 0, none⟩ = some (.int .i64 v)) (refine ⟨?_, ?_, ?_⟩ <;> first | (with_reducible assumption) | (go_simp; done) | (exact cell_later (by assumption) (by go_simp))) (first | (go_at_call 29; refine Calls.mono (hN _ (by repeat (first | (with_reducible exact Below.refl _ _) | (with_reducible refine Below.drew ?_) | (with_reducible refine Below.alloc ?_ ?hh _; case hh => first | (simp; done) | (simp; omega) | omega) | (with_reducible refine Below.setCell ?_ ?hh _; case hh => first | (simp; done) | (simp; omega) | omega) | refine bstep (by assumption) (by first | (simp; done) | (simp; omega) | omega) ?_))) ?_; rintro y w3 ⟨rfl, hb3⟩; have hz3 := hb3.size; (try simp at hz3)) | (go_at_call 48; refine Calls.mono (hA' _ (by repeat (first | (with_reducible exact Below.refl _ _) | (with_reducible refine Below.drew ?_) | (with_reducible refine Below.alloc ?_ ?hh _; case hh => first | (simp; done) | (simp; omega) | omega) | (with_reducible refine Below.setCell ?_ ?hh _; case hh => first | (simp; done) | (simp; omega) | omega) | refine bstep (by assumption) (by first | (simp; done) | (simp; omega) | omega) ?_))) ?_; rintro y w3 ⟨rfl, hb3⟩; have hz3 := hb3.size; (try simp at hz3))) | fail
              by_cases hm12 : 12 < n + 1 + (m : Int)
              · have hm2 : decide (n + 1 + (m : Int) ≤ 12) = false := by simp; omega
                cases bb <;> (go_wp2; go_returns; exact ⟨by rw [HY.out]; first | rfl | (rw [hm2]; rfl) | (rw [hm1]; rfl) | (rw [hm1, hm2]; rfl), by repeat (first | (with_reducible exact Below.refl _ _) | (with_reducible refine Below.drew ?_) | (with_reducible refine Below.alloc ?_ ?hh _; case hh => first | (simp; done) | (simp; omega) | omega) | (with_reducible refine Below.setCell ?_ ?hh _; case hh => first | (simp; done) | (simp; omega) | omega) | refine bstep (by assumption) (by first | (simp; done) | (simp; omega) | omega) ?_)⟩)
              · have hm2 : decide (n + 1 + (m : Int) ≤ 12) = true := by simp; omega
                cases bb <;> (go_wp2; go_returns; exact ⟨by rw [HY.out]; first | rfl | (rw [hm2]; rfl) | (rw [hm1]; rfl) | (rw [hm1, hm2]; rfl), by repeat (first | (with_reducible exact Below.refl _ _) | (with_reducible refine Below.drew ?_) | (with_reducible refine Below.alloc ?_ ?hh _; case hh => first | (simp; done) | (simp; omega) | omega) | (with_reducible refine Below.setCell ?_ ?hh _; case hh => first | (simp; done) | (simp; omega) | omega) | refine bstep (by assumption) (by first | (simp; done) | (simp; omega) | omega) ?_)⟩)
            · have hm1 : decide (m ≤ 1) = false := by simp; omega
              have hm0i : ¬ (m : Int) ≤ 1 := by omega
              have hdm : decide ((m : Int) ≤ 1) = false := by simp; omega
              rw [hm1, Bool.false_and, Bool.false_and] at HZ
              have HY : Hid (_) := HZ
              clear HZ
              go_wp2_with fail
              refine wp_region_held_drew (S := (fun w' => w'.cell? ⟨w.heap.size, 10, none⟩ = some (.int .i64 n) ∧ w'.cell? ⟨w.heap.size, 9, none⟩ = some (.slice a2 m c2) ∧ w'.cell? ⟨w1.heap.size, 0, none⟩ = some (.int .i64 v))) (by kernel_rfl) ?_ (fun hHeld => ?_)
              · (try dsimp only); refine ⟨?_, ?_, ?_⟩ <;> first | (with_reducible assumption) | (go_simp; done) | (exact cell_later (by assumption) (by go_simp))
              refine takeYes (i := 0) (d := 117) (v := ?_) rfl rfl (by kernel_rfl) (by kernel_rfl) (by kernel_rfl) (fun _ _ _ h => h) (by rfl) (by assumption) ?_ ?_
              rotate_left
              · intro w' hSw; (try dsimp only at hSw); go_simp; try exact rfl
              try simp only [List.setIfInBounds_toArray, List.set_cons_zero, List.set_cons_succ]
              refine takeYes (i := 1) (d := 118) (v := ?_) rfl rfl (by kernel_rfl) (by kernel_rfl) (by kernel_rfl) (fun _ _ _ h => h) (by rfl) (by assumption) ?_ ?_
              rotate_left
              · intro w' hSw; (try dsimp only at hSw); go_simp; try exact rfl
              try simp only [List.setIfInBounds_toArray, List.set_cons_zero, List.set_cons_succ]
              refine takeYes (i := 2) (d := 119) (v := ?_) rfl rfl (by kernel_rfl) (by kernel_rfl) (by kernel_rfl) (fun _ _ _ h => h) (by rfl) (by assumption) ?_ ?_
              rotate_left
              · intro w' hSw; (try dsimp only at hSw); go_simp; try exact rfl
              try simp only [List.setIfInBounds_toArray, List.set_cons_zero, List.set_cons_succ]
              refine takeYes (i := 3) (d := 120) (v := ?_) rfl rfl (by kernel_rfl) (by kernel_rfl) (by kernel_rfl) (fun _ _ _ h => h) (by rfl) (by assumption) ?_ ?_
              rotate_left
              · intro w' hSw; (try dsimp only at hSw); go_simp; try exact rfl
              try simp only [List.setIfInBounds_toArray, List.set_cons_zero, List.set_cons_succ]
              refine takeYes (i := 4) (d := 121) (v := ?_) rfl rfl (by kernel_rfl) (by kernel_rfl) (by kernel_rfl) (fun _ _ _ h => h) (by rfl) (by assumption) ?_ ?_
              rotate_left
              · intro w' hSw; (try dsimp only at hSw); go_simp; try exact rfl
              try simp only [List.setIfInBounds_toArray, List.set_cons_zero, List.set_cons_succ]
              refine takeYes (i := 5) (d := 122) (v := ?_) rfl rfl (by kernel_rfl) (by kernel_rfl) (by kernel_rfl) (fun _ _ _ h => h) (by rfl) (by assumption) ?_ ?_
              rotate_left
              · intro w' hSw; (try dsimp only at hSw); go_simp; try exact rfl
              try simp only [List.setIfInBounds_toArray, List.set_cons_zero, List.set_cons_succ]
              refine takeYes (i := 6) (d := 123) (v := ?_) rfl rfl (by kernel_rfl) (by kernel_rfl) (by kernel_rfl) (fun _ _ _ h => h) (by rfl) (by assumption) ?_ ?_
              rotate_left
              · intro w' hSw; (try dsimp only at hSw); go_simp; try exact rfl
              try simp only [List.setIfInBounds_toArray, List.set_cons_zero, List.set_cons_succ]
              refine takeYes (i := 7) (d := 124) (v := ?_) rfl rfl (by kernel_rfl) (by kernel_rfl) (by kernel_rfl) (fun _ _ _ h => h) (by rfl) (by assumption) ?_ ?_
              rotate_left
              · intro w' hSw; (try dsimp only at hSw); go_simp; try exact rfl
              try simp only [List.setIfInBounds_toArray, List.set_cons_zero, List.set_cons_succ]
              refine takeYes (i := 8) (d := 125) (v := ?_) rfl rfl (by kernel_rfl) (by kernel_rfl) (by kernel_rfl) (fun _ _ _ h => h) (by rfl) (by assumption) ?_ ?_
              rotate_left
              · intro w' hSw; (try dsimp only at hSw); go_simp; try exact rfl
              try simp only [List.setIfInBounds_toArray, List.set_cons_zero, List.set_cons_succ]
              refine takeYes (i := 9) (d := 126) (v := ?_) rfl rfl (by kernel_rfl) (by kernel_rfl) (by kernel_rfl) (fun _ _ _ h => h) (by rfl) (by assumption) ?_ ?_
              rotate_left
              · intro w' hSw; (try dsimp only at hSw); go_simp; try exact rfl
              try simp only [List.setIfInBounds_toArray, List.set_cons_zero, List.set_cons_succ]
              refine takeYes (i := 10) (d := 127) (v := ?_) rfl rfl (by kernel_rfl) (by kernel_rfl) (by kernel_rfl) (fun _ _ _ h => h) (by rfl) (by assumption) ?_ ?_
              rotate_left
              · intro w' hSw; (try dsimp only at hSw); go_simp; try exact rfl
              try simp only [List.setIfInBounds_toArray, List.set_cons_zero, List.set_cons_succ]
              refine takeYes (i := 11) (d := 128) (v := ?_) rfl rfl (by kernel_rfl) (by kernel_rfl) (by kernel_rfl) (fun _ _ _ h => h) (by rfl) (by assumption) ?_ ?_
              rotate_left
              · intro w' hSw; (try dsimp only at hSw); go_simp; try exact rfl
              try simp only [List.setIfInBounds_toArray, List.set_cons_zero, List.set_cons_succ]
              refine wpAnyH_ready (rs := [12]) (by kernel_rfl) (by simp) ?_
              refine AllReadyH.cons rfl (fun KK hKK => ?_) AllReadyH.nil
              go_simp
              go_at_call 29
              refine Calls.mono (hN _ (by repeat (first | (with_reducible exact Below.refl _ _) | (with_reducible refine Below.drew ?_) | (with_reducible refine Below.alloc ?_ ?hh _; case hh => first | (simp; done) | (simp; omega) | omega) | (with_reducible refine Below.setCell ?_ ?hh _; case hh => first | (simp; done) | (simp; omega) | omega) | refine bstep (by assumption) (by first | (simp; done) | (simp; omega) | omega) ?_))) ?_
              rintro y w3 ⟨rfl, hb3⟩
              have hz3 := hb3.size
              (try simp at hz3)
              try go_wp2_with fail
              refine hKK.out _ _ ?_ (fun hHeld12 => ?_)
              · (try dsimp only); refine ⟨?_, ?_, ?_⟩ <;> first | (with_reducible assumption) | (go_simp; done) | (exact cell_later (by assumption) (by go_simp))
              clear hKK
              refine takeYes (i := 13) (d := 130) (v := ?_) rfl rfl (by kernel_rfl) (by kernel_rfl) (by kernel_rfl) (fun _ _ _ h => h) (by rfl) (by assumption) ?_ ?_
              rotate_left
              · intro w' hSw; (try dsimp only at hSw); go_simp; try exact rfl
              try simp only [List.setIfInBounds_toArray, List.set_cons_zero, List.set_cons_succ]
              refine takeYes (i := 14) (d := 131) (v := ?_) rfl rfl (by kernel_rfl) (by kernel_rfl) (by kernel_rfl) (fun _ _ _ h => h) (by rfl) (by assumption) ?_ ?_
              rotate_left
              · intro w' hSw; (try dsimp only at hSw); go_simp; try exact rfl
              try simp only [List.setIfInBounds_toArray, List.set_cons_zero, List.set_cons_succ]
              refine takeYes (i := 15) (d := 132) (v := ?_) rfl rfl (by kernel_rfl) (by kernel_rfl) (by kernel_rfl) (fun _ _ _ h => h) (by rfl) (by assumption) ?_ ?_
              rotate_left
              · intro w' hSw; (try dsimp only at hSw); go_simp; try exact rfl
              try simp only [List.setIfInBounds_toArray, List.set_cons_zero, List.set_cons_succ]
              refine takeYes (i := 16) (d := 133) (v := ?_) rfl rfl (by kernel_rfl) (by kernel_rfl) (by kernel_rfl) (fun _ _ _ h => h) (by rfl) (by assumption) ?_ ?_
              rotate_left
              · intro w' hSw; (try dsimp only at hSw); go_simp; try exact rfl
              try simp only [List.setIfInBounds_toArray, List.set_cons_zero, List.set_cons_succ]
              refine takeYes (i := 17) (d := 134) (v := ?_) rfl rfl (by kernel_rfl) (by kernel_rfl) (by kernel_rfl) (fun _ _ _ h => h) (by rfl) (by assumption) ?_ ?_
              rotate_left
              · intro w' hSw; (try dsimp only at hSw); go_simp; try exact rfl
              try simp only [List.setIfInBounds_toArray, List.set_cons_zero, List.set_cons_succ]
              try simp only [hdm]
              refine takeYes (i := 18) (d := 135) (v := ?_) rfl rfl (by kernel_rfl) (by kernel_rfl) (by kernel_rfl) (fun _ _ _ h => h) (by rfl) (by assumption) ?_ ?_
              rotate_left
              · intro w' hSw; (try dsimp only at hSw); go_simp; try exact rfl
              try simp only [List.setIfInBounds_toArray, List.set_cons_zero, List.set_cons_succ]
              refine takeYes (i := 19) (d := 136) (v := ?_) rfl rfl (by kernel_rfl) (by kernel_rfl) (by kernel_rfl) (fun _ _ _ h => h) (by rfl) (by assumption) ?_ ?_
              rotate_left
              · intro w' hSw; (try dsimp only at hSw); go_simp; try exact rfl
              try simp only [List.setIfInBounds_toArray, List.set_cons_zero, List.set_cons_succ]
              refine takeNo (i := 20) (d := 137) rfl rfl (by kernel_rfl) (by kernel_rfl) (by kernel_rfl) (fun _ _ _ h => h) (by rfl) (by assumption) ?_
              try simp only [List.setIfInBounds_toArray, List.set_cons_zero, List.set_cons_succ]
              refine takeNo (i := 21) (d := 138) rfl rfl (by kernel_rfl) (by kernel_rfl) (by kernel_rfl) (fun _ _ _ h => h) (by rfl) (by assumption) ?_
              try simp only [List.setIfInBounds_toArray, List.set_cons_zero, List.set_cons_succ]
              refine takeNo (i := 22) (d := 139) rfl rfl (by kernel_rfl) (by kernel_rfl) (by kernel_rfl) (fun _ _ _ h => h) (by rfl) (by assumption) ?_
              try simp only [List.setIfInBounds_toArray, List.set_cons_zero, List.set_cons_succ]
              refine takeNo (i := 23) (d := 140) rfl rfl (by kernel_rfl) (by kernel_rfl) (by kernel_rfl) (fun _ _ _ h => h) (by rfl) (by assumption) ?_
              try simp only [List.setIfInBounds_toArray, List.set_cons_zero, List.set_cons_succ]
              refine takeNo (i := 24) (d := 141) rfl rfl (by kernel_rfl) (by kernel_rfl) (by kernel_rfl) (fun _ _ _ h => h) (by rfl) (by assumption) ?_
              try simp only [List.setIfInBounds_toArray, List.set_cons_zero, List.set_cons_succ]
              refine takeNo (i := 25) (d := 142) rfl rfl (by kernel_rfl) (by kernel_rfl) (by kernel_rfl) (fun _ _ _ h => h) (by rfl) (by assumption) ?_
              try simp only [List.setIfInBounds_toArray, List.set_cons_zero, List.set_cons_succ]
              refine takeYes (i := 26) (d := 143) (v := ?_) rfl rfl (by kernel_rfl) (by kernel_rfl) (by kernel_rfl) (fun _ _ _ h => h) (by rfl) (by assumption) ?_ ?_
              rotate_left
              · intro w' hSw; (try dsimp only at hSw); go_simp; try exact rfl
              try simp only [List.setIfInBounds_toArray, List.set_cons_zero, List.set_cons_succ]
              refine takeYes (i := 27) (d := 9) (v := ?_) rfl rfl (by kernel_rfl) (by kernel_rfl) (by kernel_rfl) (fun _ _ _ h => h) (by rfl) (by assumption) ?_ ?_
              rotate_left
              · intro w' hSw; (try dsimp only at hSw); go_simp; try exact rfl
              try simp only [List.setIfInBounds_toArray, List.set_cons_zero, List.set_cons_succ]
              refine takeYes (i := 28) (d := 10) (v := ?_) rfl rfl (by kernel_rfl) (by kernel_rfl) (by kernel_rfl) (fun _ _ _ h => h) (by rfl) (by assumption) ?_ ?_
              rotate_left
              · intro w' hSw; (try dsimp only at hSw); go_simp; try exact rfl
              try simp only [List.setIfInBounds_toArray, List.set_cons_zero, List.set_cons_succ]
              refine wpAnyH_done (by kernel_rfl) ?_ _
              go_wp2
              go_returns
              exact ⟨by rw [HY.out]; first | rfl | (rw [hm2]; rfl) | (rw [hm1]; rfl) | (rw [hm1, hm2]; rfl), by repeat (first | (with_reducible exact Below.refl _ _) | (with_reducible refine Below.drew ?_) | (with_reducible refine Below.alloc ?_ ?hh _; case hh => first | (simp; done) | (simp; omega) | omega) | (with_reducible refine Below.setCell ?_ ?hh _; case hh => first | (simp; done) | (simp; omega) | omega) | refine bstep (by assumption) (by first | (simp; done) | (simp; omega) | omega) ?_)⟩
theorem wdI_any (rs : List R3) : ∀ f, WdI rs f
  | 0 => wdI_zero rs
  | f + 1 => wdI_step (wdI_any rs f)
end Go.Proofs.YtaeibfipcenhaaaGreatDoor
namespace Go.Proofs.YtaeibfipcenhaaaGreatDoor
open Go.RowKit Go.Deep
set_option linter.unusedVariables false
set_option linter.unusedSimpArgs false
set_option maxHeartbeats 4000000 in
set_option maxRecDepth 100000 in
theorem specWidth_any (rs : List R3) (p : P12) (ue us u : Value) (g : List Nat) (D d : Nat) (vd : Value) (Fd : List Nat) (w : World) (hw : p.wf) (hL : ListsP w D (PlansIs w D d) p ue us u g) (hn : wtP p ≤ 1048576) (hR : RelsF w vd rs Fd) :
    Calls Tryz.prog 16 #[vd, (.agg #[.int .i64 p.k, .string p.s, .int .i64 p.e.k, .int .i64 p.e.n, .int .i64 p.e.v.k, .int .i64 p.e.v.n, .string p.e.v.s, .string p.e.p, ue, us, .int .i64 p.n, u])] w fun x w' => x = .returned (.int .i64 (widthP rs 9 p)) ∧ Below w.heap.size w w' := by
  obtain ⟨a1, c1, a2, c2, a3, c3, rfl, rfl, rfl, _, _, _, _, _, _⟩ := hL.shape
  obtain ⟨ad, ld, cd, rfl⟩ := hR.is.shape
  have hI : ∀ w2, Below w.heap.size w w2 → Calls Tryz.prog 30 #[.slice ad ld cd, (.agg #[.int .i64 p.k, .string p.s, .int .i64 p.e.k, .int .i64 p.e.n, .int .i64 p.e.v.k, .int .i64 p.e.v.n, .string p.e.v.s, .string p.e.p, (.slice a1 p.e.ks.length c1), (.slice a2 p.es.length c2), .int .i64 p.n, (.slice a3 p.ks.length c3)]), .int .i64 8] w2 fun x w' => x = .returned (.int .i64 (widthP rs 9 p)) ∧ Below w2.heap.size w2 w' := fun w2 hb => wdI_any rs 9 p _ _ _ g D d _ Fd w2 hw (hL.below hb) hn (hR.below hb) (Nat.le_refl _)
  clear hL hR
  go_enter Tryz.func16, Tryz.ntmps16
  go_wp2_with fail
  refine Calls.mono (hI _ (by repeat (first | (with_reducible exact Below.refl _ _) | (with_reducible refine Below.drew ?_) | (with_reducible refine Below.alloc ?_ ?hh _; case hh => first | (simp; done) | (simp; omega) | omega) | (with_reducible refine Below.setCell ?_ ?hh _; case hh => first | (simp; done) | (simp; omega) | omega) | refine bstep (by assumption) (by first | (simp; done) | (simp; omega) | omega) ?_))) ?_
  rintro z w2 ⟨rfl, hb2⟩
  have hz2 := hb2.size
  (try simp at hz2)
  go_wp2
  go_returns
  exact ⟨rfl, by repeat (first | (with_reducible exact Below.refl _ _) | (with_reducible refine Below.drew ?_) | (with_reducible refine Below.alloc ?_ ?hh _; case hh => first | (simp; done) | (simp; omega) | omega) | (with_reducible refine Below.setCell ?_ ?hh _; case hh => first | (simp; done) | (simp; omega) | omega) | refine bstep (by assumption) (by first | (simp; done) | (simp; omega) | omega) ?_)⟩
end Go.Proofs.YtaeibfipcenhaaaGreatDoor
