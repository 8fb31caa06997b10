/- Own text. Whether relations are a database: the contracts of both DbOk. -/
import Derived.Test.YtooeohhkcemoiaaRelC
import Derived.Test.YtooeohhkcemoiaaPlainC
import Derived.Test.YtooeohhkcemoiaaNameB
import Derived.Test.YtooeohhkcemoiaaBless
import Derived.Handy
import Derived.Deep.RegionHeld3
namespace Go.Proofs.Ytooeohhkcemoiaa
open Go.RowKit
set_option linter.unusedVariables false
/-- whether the name before, if there is one, is less. -/
def okPrevR (p : Option R3) (x : R3) : Bool := match p with
  | none => true
  | some y => Op.bytesLess y.s.toList x.s.toList
/-- whether relations have names and plain bags, and ascend. -/
def okRs : Option R3 → List R3 → Bool
  | _, [] => true
  | p, x :: xs => nameB x.s && okPlain x.W x.cs && okPrevR p x && okRs (some x) xs
def prevR (rs : List R3) (k : Nat) : Option R3 := if k = 0 then none else rs[k - 1]?
/-- whether relations are a database. -/
def okDb (rs : List R3) : Bool := decide (rs.length ≤ 20) && okRs none rs
theorem okRs_step {rs : List R3} {k : Nat} {x : R3} (h : rs[k]? = some x) :
    okRs (prevR rs k) (rs.drop k) = (nameB x.s && okPlain x.W x.cs && okPrevR (prevR rs k) x && okRs (prevR rs (k + 1)) (rs.drop (k + 1))) := by
  obtain ⟨hk, rfl⟩ := List.getElem?_eq_some_iff.1 h
  rw [List.drop_eq_getElem_cons hk]
  simp [okRs, prevR, hk]
theorem prevR_zero (rs : List R3) : prevR rs 0 = none := rfl
theorem prevR_succ {rs : List R3} {j : Nat} {y : R3} (h : rs[j]? = some y) : prevR rs (j + 1) = some y := by simp [prevR, h]
set_option maxHeartbeats 4000000 in
set_option maxRecDepth 100000 in
theorem implDbOk_any (v : Value) (rs : List R3) (w : World) (hw : RsWf rs) (hr : RelsIs w v rs) :
    Calls Try.prog 16 #[v] w fun e w' => e = .returned (.bool (okDb rs)) ∧ Below w.heap.size w w' := by
  obtain ⟨a, c, b, o, rfl, hl, hc, ha⟩ := hr.pick
  unfold maxLen at hc
  clear hr
  by_cases h2 : 20 < (rs.length : Int)
  · go_enter Try.func16, Try.ntmps16
    go_wp2
    go_returns
    exact ⟨ret_bool (by simp [okDb, show ¬ rs.length ≤ 20 from by omega]), by go_grown⟩
  have HB : Hid (okDb rs = okRs none rs) := by simp [Hid, okDb, show rs.length ≤ 20 from by omega]
  go_enter Try.func16, Try.ntmps16
  go_wp2
  go_loopw [10] (fun i wr => ∃ (k : Nat) (q : Int), k ≤ rs.length ∧ q = k ∧ i = .int .i64 q ∧ Below w.heap.size w wr ∧ okRs none rs = okRs (prevR rs k) (rs.drop k)) (fun i _ => rs.length - (intOf i).toNat)
  case atStart => exact ⟨0, 0, Nat.zero_le _, rfl, rfl, by go_grown, by simp [prevR]⟩
  case round =>
    obtain ⟨k, q, hk, hq, rfl, hb, heq⟩ := hrel
    have HE : Hid (okRs none rs = okRs (prevR rs k) (rs.drop k)) := heq
    have hzb := hb.size
    clear heq
    by_cases hlt : k < rs.length
    · obtain ⟨rfl, hblt, hL⟩ := ha k hlt
      obtain ⟨x, u, hx, c0, c1, c2, hR, hbr⟩ := hL.at hblt hb hlt
      obtain ⟨ur, lr, cr, rfl⟩ := hR.shape
      obtain ⟨hxs, _, hxw⟩ := hw x (List.mem_of_getElem? hx)
      have HS : Hid (okRs (prevR rs k) (rs.drop k) = (nameB x.s && okPlain x.W x.cs && okPrevR (prevR rs k) x && okRs (prevR rs (k + 1)) (rs.drop (k + 1)))) := okRs_step hx
      by_cases hnm : nameB x.s = true
      rotate_left
      · have hf : nameB x.s = false := by simpa using hnm
        clear ha hw hL hx
        subst hq
        go_wp2_with (first | (go_at_call 30; refine (implName_any x.s _ hxs).mono ?_; rintro e w1 ⟨rfl, rfl⟩) | (go_at_call 20; refine Calls.mono (implPlain_any x.W _ x.cs _ hxw (hR.below (by repeat (first | exact Below.refl _ _ | refine Below.drew ?_ | refine Below.alloc ?_ (by first | (simp; done) | (simp; omega) | omega) _ | refine Below.setCell ?_ (by first | (simp; done) | (simp; omega) | omega) _ | refine bstep (by assumption) (by first | (simp; done) | (simp; omega) | omega) ?_)))) ?_; rintro e w2 ⟨rfl, hb2⟩; have hz2 := hb2.size; (try simp at hz2); have n2 : w2.cell? ⟨wr.heap.size, 0, none⟩ = some (.string x.s) := cell_later hb2 (by go_simp)) | fail)
        go_returns
        refine ⟨ret_bool ?_, by repeat (first | exact Below.refl _ _ | refine Below.drew ?_ | refine Below.alloc ?_ (by first | (simp; done) | (simp; omega) | omega) _ | refine Below.setCell ?_ (by first | (simp; done) | (simp; omega) | omega) _ | refine bstep (by assumption) (by first | (simp; done) | (simp; omega) | omega) ?_)⟩
        rw [HB.out, HE.out, HS.out, hf]
        simp
      by_cases hpl : okPlain x.W x.cs = true
      rotate_left
      · have hf : okPlain x.W x.cs = false := by simpa using hpl
        clear ha hw hL hx
        subst hq
        go_wp2_with (first | (go_at_call 30; refine (implName_any x.s _ hxs).mono ?_; rintro e w1 ⟨rfl, rfl⟩) | (go_at_call 20; refine Calls.mono (implPlain_any x.W _ x.cs _ hxw (hR.below (by repeat (first | exact Below.refl _ _ | refine Below.drew ?_ | refine Below.alloc ?_ (by first | (simp; done) | (simp; omega) | omega) _ | refine Below.setCell ?_ (by first | (simp; done) | (simp; omega) | omega) _ | refine bstep (by assumption) (by first | (simp; done) | (simp; omega) | omega) ?_)))) ?_; rintro e w2 ⟨rfl, hb2⟩; have hz2 := hb2.size; (try simp at hz2); have n2 : w2.cell? ⟨wr.heap.size, 0, none⟩ = some (.string x.s) := cell_later hb2 (by go_simp)) | fail)
        go_returns
        refine ⟨ret_bool ?_, by repeat (first | exact Below.refl _ _ | refine Below.drew ?_ | refine Below.alloc ?_ (by first | (simp; done) | (simp; omega) | omega) _ | refine Below.setCell ?_ (by first | (simp; done) | (simp; omega) | omega) _ | refine bstep (by assumption) (by first | (simp; done) | (simp; omega) | omega) ?_)⟩
        rw [HB.out, HE.out, HS.out, hf]
        simp
      rcases Nat.eq_zero_or_pos k with hk0 | hk0
      · subst hk0
        obtain rfl : q = 0 := by simpa using hq
        rw [Nat.zero_mul, Nat.add_zero] at c0 c1 c2
        clear ha hw hL hx hq
        go_wp2_with (first | (go_at_call 30; refine (implName_any x.s _ hxs).mono ?_; rintro e w1 ⟨rfl, rfl⟩) | (go_at_call 20; refine Calls.mono (implPlain_any x.W _ x.cs _ hxw (hR.below (by repeat (first | exact Below.refl _ _ | refine Below.drew ?_ | refine Below.alloc ?_ (by first | (simp; done) | (simp; omega) | omega) _ | refine Below.setCell ?_ (by first | (simp; done) | (simp; omega) | omega) _ | refine bstep (by assumption) (by first | (simp; done) | (simp; omega) | omega) ?_)))) ?_; rintro e w2 ⟨rfl, hb2⟩; have hz2 := hb2.size; (try simp at hz2); have n2 : w2.cell? ⟨wr.heap.size, 0, none⟩ = some (.string x.s) := cell_later hb2 (by go_simp)) | fail)
        go_region
        go_wp2
        go_roundw
        case rel =>
          refine ⟨1, 1, hlt, rfl, by simp, by repeat (first | exact Below.refl _ _ | refine Below.drew ?_ | refine Below.alloc ?_ (by first | (simp; done) | (simp; omega) | omega) _ | refine Below.setCell ?_ (by first | (simp; done) | (simp; omega) | omega) _ | refine bstep (by assumption) (by first | (simp; done) | (simp; omega) | omega) ?_), ?_⟩
          rw [HE.out, HS.out, hnm, hpl, prevR_zero]
          simp [okPrevR]
        case measure => simp [intOf]; omega
      · obtain ⟨j, rfl⟩ : ∃ j, k = j + 1 := ⟨k - 1, by omega⟩
        obtain rfl : q = (j : Int) + 1 := by omega
        obtain ⟨y, t, hy, d0, d1, d2', hT, _⟩ := hL.at hblt hb (show j < rs.length by omega)
        have HP : Hid (prevR rs (j + 1) = some y) := prevR_succ hy
        clear ha hw hL hx hy hq d1 d2' hT
        go_wp2_with (first | (go_at_call 30; refine (implName_any x.s _ hxs).mono ?_; rintro e w1 ⟨rfl, rfl⟩) | (go_at_call 20; refine Calls.mono (implPlain_any x.W _ x.cs _ hxw (hR.below (by repeat (first | exact Below.refl _ _ | refine Below.drew ?_ | refine Below.alloc ?_ (by first | (simp; done) | (simp; omega) | omega) _ | refine Below.setCell ?_ (by first | (simp; done) | (simp; omega) | omega) _ | refine bstep (by assumption) (by first | (simp; done) | (simp; omega) | omega) ?_)))) ?_; rintro e w2 ⟨rfl, hb2⟩; have hz2 := hb2.size; (try simp at hz2); have n2 : w2.cell? ⟨wr.heap.size, 0, none⟩ = some (.string x.s) := cell_later hb2 (by go_simp); have d2 : w2.cell? ⟨b, o + j * 3, none⟩ = some (.string y.s) := cell_later hb2 (by go_simp)) | fail)
        have hw1 : IntKind.i64.wrap (j : Int) = j := by rw [IntKind.wrap_i64]; omega
        have hw2 : IntKind.i64.wrap ((j : Int) + 1 - 1) = j := by rw [IntKind.wrap_i64]; omega
        have hi0 : (0 : Int) ≤ j := by omega
        have hi1 : (j : Int) < rs.length := by omega
        have hi2 : (0 : Int) < (j : Int) + 1 := by omega
        have HQ : Hid (okPrevR (prevR rs (j + 1)) x = Op.bytesLess y.s.toList x.s.toList) := by rw [HP.out]; rfl
        go_region_held3 (fun w' => w'.cell? ⟨wr.heap.size, 0, none⟩ = some (.string x.s) ∧ w'.cell? ⟨b, o + j * 3, none⟩ = some (.string y.s)) (refine ⟨?_, ?_⟩ <;> first | (go_simp; done) | (exact cell_later (by assumption) (by go_simp))) (fail)
        go_wp2
        · have hcf : Op.bytesLess y.s.toList x.s.toList = false := by
            have h9 : (!Op.bytesLess y.s.toList x.s.toList) = true := by assumption
            simpa using h9
          go_returns
          refine ⟨ret_bool ?_, by repeat (first | exact Below.refl _ _ | refine Below.drew ?_ | refine Below.alloc ?_ (by first | (simp; done) | (simp; omega) | omega) _ | refine Below.setCell ?_ (by first | (simp; done) | (simp; omega) | omega) _ | refine bstep (by assumption) (by first | (simp; done) | (simp; omega) | omega) ?_)⟩
          rw [HB.out, HE.out, HS.out, HQ.out, hcf]
          simp
        · have hcmp : Op.bytesLess y.s.toList x.s.toList = true := by
            have h9 : (!Op.bytesLess y.s.toList x.s.toList) = false := by assumption
            simpa using h9
          refine ⟨⟨j + 1 + 1, (j : Int) + 1 + 1, hlt, by omega, rfl, by repeat (first | exact Below.refl _ _ | refine Below.drew ?_ | refine Below.alloc ?_ (by first | (simp; done) | (simp; omega) | omega) _ | refine Below.setCell ?_ (by first | (simp; done) | (simp; omega) | omega) _ | refine bstep (by assumption) (by first | (simp; done) | (simp; omega) | omega) ?_), ?_⟩, by simp [intOf]; omega⟩
          rw [HE.out, HS.out, HQ.out, hnm, hpl, hcmp]
          simp
    · clear ha hw
      go_wp2
      go_returns
      refine ⟨ret_bool ?_, hb⟩
      rw [HB.out, HE.out, List.drop_eq_nil_of_le (by omega)]
      rfl
end Go.Proofs.Ytooeohhkcemoiaa
