/- Own text. The contract of markText: it answers a text that hangs on the number alone. -/
import Derived.Test.YtjblljggmjbalaaKit
import Derived.Handy
namespace Go.Proofs.Ytjblljggmjbalaa
open Go.RowKit
set_option linter.unusedVariables false
/-- the digits of a number; none of 0. -/
def dg (u : Nat) : List Int := if h : u = 0 then [] else have : u / 10 < u := by omega
  dg (u / 10) ++ [((48 + u % 10 : Nat) : Int)]
theorem dg_step (u : Nat) (h : u ≠ 0) : dg u = dg (u / 10) ++ [((48 + u % 10 : Nat) : Int)] := by rw [dg, dif_neg h]
theorem dg_zero : dg 0 = [] := by rw [dg, dif_pos rfl]
theorem dg_len (u : Nat) : (dg u).length ≤ u := by
  induction u using Nat.strongRecOn with
  | _ u ih =>
    by_cases h : u = 0
    · subst h; rw [dg_zero]; simp
    · rw [dg_step u h, List.length_append]
      have := ih (u / 10) (by omega)
      simp only [List.length_cons, List.length_nil]
      omega
/-- the text of a mark. -/
def mt (u : Int) : ByteArray := ⟨#[109]⟩ ++ strOfNums (dg u.toNat)
theorem cat1 (x : Int) (l : List Int) : strOfNums [x] ++ strOfNums l = strOfNums (x :: l) := by
  apply ByteArray.ext
  rw [ByteArray.data_append]
  simp [strOfNums]
theorem Try.conv1 (w : World) (x : Int) (m : Nat × Nat) : (convert 50 9 (.slice (some ⟨w.heap.size, 0, none⟩) 1 1)).run Try.prog (w.alloc (.cells #[.int .u8 x] 5 m)) = .ok (.string (strOfNums [x])) (w.alloc (.cells #[.int .u8 x] 5 m)) := by
  refine run_convert_bytes_arg _ 50 5 Try.underlying50 Try.underlying5 w.heap.size 0 1 1 [x] rfl ?_ 9 Try.underlying9
  intro i hi
  obtain rfl : i = 0 := by omega
  have := heap_alloc_new w (.cells #[.int .u8 x] 5 m)
  show (w.alloc (.cells #[.int .u8 x] 5 m)).cell? ⟨w.heap.size, 0, none⟩ = some (.int .u8 x)
  simp only [World.cell?, this]
  rfl
set_option maxHeartbeats 1000000 in
set_option maxRecDepth 100000 in
theorem markText_any (u : Nat) (w : World) (h0 : u ≠ 0) (h1 : u ≤ 1000000000) :
    Calls Try.prog 20 #[.int .i64 u] w fun e w' => e = .returned (.string (mt u)) ∧ Below w.heap.size w w' := by
  have hneg : decide ((u : Int) ≤ 0) = false := by simp; omega
  have hU := dg_len u
  go_enter Try.func20, Try.ntmps20
  go_wp2
  go_loopw [0, 3] (fun m o wr => ∃ (v : Nat) (l : List Int), o = .string (strOfNums l) ∧ m = .int .i64 v ∧ v ≤ u ∧ dg v ++ l = dg u ∧ Below w.heap.size w wr) (fun m _ _ => (intOf m).toNat)
  case atStart => exact ⟨u, [], rfl, rfl, Nat.le_refl _, by simp, by go_grown⟩
  case round =>
    obtain ⟨v, l, rfl, rfl, hv, hl0, hb⟩ := hrel
    have hzb := hb.size
    have hll : (strOfNums l).size ≤ 1000000000 := by
      have := congrArg List.length hl0
      rw [List.length_append] at this
      simp [strOfNums, ByteArray.size]
      omega
    have hl : Hid (dg v ++ l = dg u) := hl0
    clear hl0
    by_cases hz : v = 0
    · subst hz
      have hfin : Hid ((⟨#[109]⟩ : ByteArray) ++ strOfNums l = mt u) := by show _ = _; rw [mt, Int.toNat_natCast, ← hl.out, dg_zero, List.nil_append]
      go_wp2
      go_returns
      exact ⟨by rw [← hfin.out]; rfl, hb⟩
    · have hvp : (0 : Int) < v := by omega
      have hst : Hid (dg (v / 10) ++ (((48 + v % 10 : Nat) : Int) :: l) = dg u) := by
        show _ = _
        rw [← hl.out, dg_step v hz, List.append_assoc]; rfl
      have hcv := Try.conv1 wr
      have hs1 : (strOfNums [48 + (v : Int) % 10]).size ≤ 1 := by simp [strOfNums, ByteArray.size]
      have hct : Hid (strOfNums [48 + (v : Int) % 10] ++ strOfNums l = strOfNums (((48 + v % 10 : Nat) : Int) :: l)) := cat1 _ l
      have hdv : Hid (v / 10 < v) := by show _ < _; omega
      go_wp2
      exact ⟨⟨v / 10, _, by rw [← hct.out], by go_num, by omega, hst.out, by repeat (first | (with_reducible exact Below.refl _ _) | (with_reducible refine Below.drew ?_) | (with_reducible refine Below.alloc ?_ ?hh _; case hh => first | (simp; done) | (simp; omega) | omega) | (with_reducible refine Below.setCell ?_ ?hh _; case hh => first | (simp; done) | (simp; omega) | omega) | refine bstep (by assumption) (by first | (simp; done) | (simp; omega) | omega) ?_)⟩, by have := hdv.out; simp [intOf]; omega⟩
end Go.Proofs.Ytjblljggmjbalaa
