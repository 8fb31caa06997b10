/- Own texts, joined: contracts that the law's proof goes by. -/
import Derived.Test.YtaeibfipcenhaaaGreatDoorGLViewsOk8
import Derived.Test.YtaeibfipcenhaaaGreatDoorGLViewsOk3
import Derived.Test.YtaeibfipcenhaaaGreatDoorGLViewsOk9
import Derived.Handy
import Derived.Test.YtaeibfipcenhaaaGreatDoorGLViewsOk5
import Derived.Laws.RangeAny
import Derived.Deep.RegionHeld3
namespace Go.Proofs.YtaeibfipcenhaaaGreatDoor
open Go.RowKit
set_option linter.unusedVariables false
theorem okB_of {b : Bool} {k n : Int} {s : ByteArray} (h : b = okB k n s) : Ending.returned (.bool b) = .returned (.bool (okB k n s)) := by rw [h]
set_option maxHeartbeats 1000000 in
set_option maxRecDepth 100000 in
theorem specValueOk_any (k n : Int) (s : ByteArray) (w : World) (hs : s.size ≤ maxLen) :
    Calls Tryz.prog 87 #[(.agg #[.int .i64 k, .int .i64 n, .string s])] w fun e w' => e = .returned (.bool (okB k n s)) ∧ Below w.heap.size w w' := by
  unfold maxLen at hs
  go_enter Tryz.func87, Tryz.ntmps87
  go_wp2
  all_goals (go_returns; refine ⟨okB_of ?_, ?_⟩)
  all_goals first | (go_grown; done) | (simp_all [okB]; done) | (simp_all [okB]; omega)
end Go.Proofs.YtaeibfipcenhaaaGreatDoor
namespace Go.Proofs.YtaeibfipcenhaaaGreatDoor
open Go.RowKit
set_option linter.unusedVariables false
/-- whether a value is right. -/
def okW (x : V3) : Bool := okB x.k x.n x.s
/-- whether a row is right, with W values. -/
def okRow (vs : List V3) (W : Int) : Bool := decide ((vs.length : Int) = W) && vs.all okW
theorem all_step {vs : List V3} {k : Nat} {x : V3} (h : vs[k]? = some x) : (vs.drop k).all okW = (okW x && (vs.drop (k + 1)).all okW) := by
  obtain ⟨hk, rfl⟩ := List.getElem?_eq_some_iff.1 h
  rw [List.drop_eq_getElem_cons hk]
  rfl
set_option maxHeartbeats 2000000 in
set_option maxRecDepth 100000 in
theorem l02Row_any (v : Value) (vs : List V3) (W : Int) (w : World) (hr : RowIs w v vs) (hw : VsWf vs) :
    Calls Tryz.prog 68 #[v, .int .i64 W] w fun e w' => e = .returned (.bool (okRow vs W)) ∧ Below w.heap.size w w' := by
  obtain ⟨a, c, b, o, rfl, hl, hc, ha⟩ := hr.pick
  unfold maxLen at hc
  clear hr
  go_enter Tryz.func68, Tryz.ntmps68
  go_wp2
  go_loopw [5] (fun i wr => ∃ k : Nat, k ≤ vs.length ∧ i = .int .i64 k ∧ Below w.heap.size w wr ∧ vs.all okW = (vs.drop k).all okW) (fun i _ => vs.length - (intOf i).toNat)
  case atStart => exact ⟨0, Nat.zero_le _, rfl, by go_grown, by simp⟩
  case round =>
    obtain ⟨k, hk, rfl, hb, heq⟩ := hrel
    have HE : Hid (vs.all okW = (vs.drop k).all okW) := heq
    have hzb := hb.size
    clear heq
    by_cases hlt : k < vs.length
    · obtain ⟨rfl, hblt, hL⟩ := ha k hlt
      obtain ⟨x, hx, c0, c1, c2, hbr⟩ := hL.at hblt hb hlt
      have hxs : x.s.size ≤ maxLen := (hw x (List.mem_of_getElem? hx)).2.2
      have HS : Hid ((vs.drop k).all okW = (okW x && (vs.drop (k + 1)).all okW)) := all_step hx
      clear ha hL hx hw
      by_cases hok : okB x.k x.n x.s = true
      · go_wp2_with (go_at_call 87; refine (specValueOk_any _ _ _ _ hxs).mono ?_; rintro e w1 ⟨rfl, hb1⟩)
        go_roundw
        case rel =>
          refine ⟨k + 1, hlt, by simp, by repeat (first | exact Below.refl _ _ | refine Below.drew ?_ | refine Below.alloc ?_ (by first | (simp; done) | (simp; omega) | omega) _ | refine Below.setCell ?_ (by first | (simp; done) | (simp; omega) | omega) _ | refine bstep (by assumption) (by first | (simp; done) | (simp; omega) | omega) ?_), ?_⟩
          rw [HE.out, HS.out, show okW x = true from hok, Bool.true_and]
        case measure => simp [intOf]; omega
      · go_wp2_with (go_at_call 87; refine (specValueOk_any _ _ _ _ hxs).mono ?_; rintro e w1 ⟨rfl, hb1⟩)
        go_returns
        refine ⟨ret_bool ?_, by repeat (first | exact Below.refl _ _ | refine Below.drew ?_ | refine Below.alloc ?_ (by first | (simp; done) | (simp; omega) | omega) _ | refine Below.setCell ?_ (by first | (simp; done) | (simp; omega) | omega) _ | refine bstep (by assumption) (by first | (simp; done) | (simp; omega) | omega) ?_)⟩
        have hf : okW x = false := by unfold okW; simpa using hok
        unfold okRow
        rw [HE.out, HS.out, hf]
        simp
    · clear ha hw
      go_wp2
      go_returns
      refine ⟨ret_bool ?_, hb⟩
      unfold okRow
      rw [HE.out, List.drop_eq_nil_of_le (by omega)]
      simp
      try rfl
set_option maxHeartbeats 2000000 in
set_option maxRecDepth 100000 in
theorem rowOk_any (v : Value) (vs : List V3) (W : Int) (w : World) (hr : RowIs w v vs) (hw : VsWf vs) :
    Calls Tryz.prog 72 #[v, .int .i64 W] w fun e w' => e = .returned (.bool (okRow vs W)) ∧ Below w.heap.size w w' := by
  obtain ⟨a, c, b, o, rfl, hl, hc, ha⟩ := hr.pick
  unfold maxLen at hc
  clear hr
  by_cases hW : (vs.length : Int) = W
  · subst hW
    go_enter Tryz.func72, Tryz.ntmps72
    go_wp2
    go_loopw [13] (fun i wr => ∃ k : Nat, k ≤ vs.length ∧ i = .int .i64 k ∧ Below w.heap.size w wr ∧ vs.all okW = (vs.drop k).all okW) (fun i _ => vs.length - (intOf i).toNat)
    case atStart => exact ⟨0, Nat.zero_le _, rfl, by go_grown, by simp⟩
    case round =>
      obtain ⟨k, hk, rfl, hb, heq⟩ := hrel
      have HE : Hid (vs.all okW = (vs.drop k).all okW) := heq
      have hzb := hb.size
      clear heq
      by_cases hlt : k < vs.length
      · obtain ⟨rfl, hblt, hL⟩ := ha k hlt
        obtain ⟨x, hx, c0, c1, c2, hbr⟩ := hL.at hblt hb hlt
        have hxs : x.s.size ≤ maxLen := (hw x (List.mem_of_getElem? hx)).2.2
        have HS : Hid ((vs.drop k).all okW = (okW x && (vs.drop (k + 1)).all okW)) := all_step hx
        clear ha hL hx hw
        by_cases hok : okB x.k x.n x.s = true
        · go_wp2_with (go_at_call 90; refine (implValueOk_any _ _ _ _ hxs).mono ?_; rintro e w1 ⟨rfl, hb1⟩; have hz1 := hb1.size; (try simp at hz1))
          go_roundw
          case rel =>
            refine ⟨k + 1, hlt, by simp, by repeat (first | exact Below.refl _ _ | refine Below.drew ?_ | refine Below.alloc ?_ (by first | (simp; done) | (simp; omega) | omega) _ | refine Below.setCell ?_ (by first | (simp; done) | (simp; omega) | omega) _ | refine bstep (by assumption) (by first | (simp; done) | (simp; omega) | omega) ?_), ?_⟩
            rw [HE.out, HS.out, show okW x = true from hok, Bool.true_and]
          case measure => simp [intOf]; omega
        · go_wp2_with (go_at_call 90; refine (implValueOk_any _ _ _ _ hxs).mono ?_; rintro e w1 ⟨rfl, hb1⟩; have hz1 := hb1.size; (try simp at hz1))
          go_returns
          refine ⟨ret_bool ?_, by repeat (first | exact Below.refl _ _ | refine Below.drew ?_ | refine Below.alloc ?_ (by first | (simp; done) | (simp; omega) | omega) _ | refine Below.setCell ?_ (by first | (simp; done) | (simp; omega) | omega) _ | refine bstep (by assumption) (by first | (simp; done) | (simp; omega) | omega) ?_)⟩
          have hf : okW x = false := by unfold okW; simpa using hok
          unfold okRow
          rw [HE.out, HS.out, hf]
          simp
      · clear ha hw
        go_wp2
        go_returns
        refine ⟨ret_bool ?_, hb⟩
        unfold okRow
        rw [HE.out, List.drop_eq_nil_of_le (by omega)]
        simp
  · go_enter Tryz.func72, Tryz.ntmps72
    go_wp2
    go_returns
    exact ⟨ret_bool (by simp [okRow, hW]), by go_grown⟩
/-- whether a count is right. -/
def okN (n : Int) : Bool := decide (n ≠ 0) && decide (-1000000000 ≤ n) && decide (n ≤ 1000000000)
set_option maxHeartbeats 1000000 in
theorem countOk_any (n : Int) (w : World) :
    Calls Tryz.prog 73 #[.int .i64 n] w fun e w' => e = .returned (.bool (okN n)) ∧ Below w.heap.size w w' := by
  by_cases h0 : n = 0
  · subst h0
    go_enter Tryz.func73, Tryz.ntmps73
    go_wp2
    go_returns
    exact ⟨ret_bool (by simp [okN]), by go_grown⟩
  · by_cases h1 : -1000000000 ≤ n
    · go_enter Tryz.func73, Tryz.ntmps73
      go_wp2
      go_returns
      exact ⟨ret_bool (by simp [okN, h0, h1]), by go_grown⟩
    · go_enter Tryz.func73, Tryz.ntmps73
      go_wp2
      go_returns
      exact ⟨ret_bool (by simp [okN, h0]; omega), by go_grown⟩
set_option maxHeartbeats 1000000 in
theorem l01In_any (n a b : Int) (w : World) :
    Calls Tryz.prog 29 #[.int .i64 n, .int .i64 a, .int .i64 b] w fun e w' => e = .returned (.bool (decide (a ≤ n) && decide (n ≤ b))) ∧ Below w.heap.size w w' := by
  by_cases h1 : a ≤ n
  · go_enter Tryz.func29, Tryz.ntmps29
    go_wp2
    go_returns
    exact ⟨ret_bool (by simp [h1]), by go_grown⟩
  · go_enter Tryz.func29, Tryz.ntmps29
    go_wp2
    go_returns
    exact ⟨ret_bool (by simp; omega), by go_grown⟩
end Go.Proofs.YtaeibfipcenhaaaGreatDoor
namespace Go.Proofs.YtaeibfipcenhaaaGreatDoor
open Go.RowKit
set_option linter.unusedVariables false
/-- all signs. -/
def ops9 : List ByteArray := [⟨#[43]⟩, ⟨#[45]⟩, ⟨#[42]⟩, ⟨#[47]⟩, ⟨#[61]⟩, ⟨#[60]⟩, ⟨#[126]⟩, ⟨#[97, 110, 100]⟩, ⟨#[111, 114]⟩]
/-- whether it is one of these. -/
def hasB (l : List ByteArray) (p : ByteArray) : Bool := l.any fun q => q.toList == p.toList
def opB (p : ByteArray) : Bool := hasB ops9 p
theorem hasB_take {l : List ByteArray} {k : Nat} {q p : ByteArray} (h : l[k]? = some q) : hasB (l.take (k + 1)) p = (hasB (l.take k) p || q.toList == p.toList) := by
  obtain ⟨hk, rfl⟩ := List.getElem?_eq_some_iff.1 h
  unfold hasB
  rw [List.take_succ_eq_append_getElem hk, List.any_append]
  simp
theorem hasB_of_take {l : List ByteArray} {k : Nat} {p : ByteArray} (h : hasB (l.take k) p = true) : hasB l p = true := by
  unfold hasB at h ⊢
  obtain ⟨q, hq, e⟩ := List.any_eq_true.1 h
  exact List.any_eq_true.2 ⟨q, List.mem_of_mem_take hq, e⟩
set_option maxHeartbeats 2000000 in
set_option maxRecDepth 100000 in
theorem l03Has_any (b o c : Nat) (l : List ByteArray) (p : ByteArray) (w : World) (hl : l.length ≤ c) (hc : c ≤ 1000) (hlt : b < w.heap.size) (h : ∀ i q, l[i]? = some q → w.cell? ⟨b, o + i, none⟩ = some (.string q)) :
    Calls Tryz.prog 103 #[.slice (some ⟨b, o, none⟩) l.length c, .string p] w fun e w' => e = .returned (.bool (hasB l p)) ∧ Below w.heap.size w w' := by
  go_enter Tryz.func103, Tryz.ntmps103
  go_wp2
  go_loopw [5] (fun i wr => ∃ k : Nat, k ≤ l.length ∧ i = .int .i64 k ∧ hasB (l.take k) p = false ∧ Below w.heap.size w wr) (fun i _ => l.length - (intOf i).toNat)
  case atStart => exact ⟨0, Nat.zero_le _, rfl, rfl, by go_grown⟩
  case round =>
    obtain ⟨k, hk, rfl, hf, hb⟩ := hrel
    by_cases hkt : k < l.length
    · obtain ⟨q, hq⟩ : ∃ q, l[k]? = some q := ⟨l[k], by simp [hkt]⟩
      have c0 : wr.cell? ⟨b, o + k, none⟩ = some (.string q) := (hb.cell (p := ⟨b, o + k, none⟩) hlt).trans (h k q hq)
      have H1 : Hid (hasB (l.take (k + 1)) p = (q.toList == p.toList)) := by show _ = _; rw [hasB_take hq, hf, Bool.false_or]
      have HF : Hid (hasB (l.take k) p = false) := hf
      clear h hq hf
      by_cases he : (q.toList == p.toList) = true
      · go_wp2
        go_returns
        refine ⟨ret_bool ?_, hb⟩
        rw [hasB_of_take (H1.out.trans he)]
      · have he' : (q.toList == p.toList) = false := by simpa using he
        go_wp2
        exact ⟨⟨k + 1, hkt, by simp, H1.out.trans he', by repeat (first | (with_reducible exact Below.refl _ _) | (with_reducible refine Below.drew ?_) | (with_reducible refine Below.alloc ?_ ?hh _; case hh => first | (simp; done) | (simp; omega) | omega) | (with_reducible refine Below.setCell ?_ ?hh _; case hh => first | (simp; done) | (simp; omega) | omega) | refine bstep (by assumption) (by first | (simp; done) | (simp; omega) | omega) ?_)⟩, by simp [intOf]; omega⟩
    · have hkk : k = l.length := by omega
      subst hkk
      rw [List.take_length] at hf
      have HF : Hid (hasB l p = false) := hf
      clear hf h
      go_wp2
      go_returns
      exact ⟨ret_bool HF.out.symm, hb⟩
theorem Tryz.next7 (w : World) (ty : TypeId) (k : Nat) (hk : k < 7) : (Instr.next (.pointer (some ⟨w.heap.size, 0, none⟩)) true ty).run Tryz.prog (w.iter ⟨#[43, 45, 42, 47, 61, 60, 126]⟩ k) = .ok (.tuple #[.bool true, .int .i64 k, .int .i32 (([43, 45, 42, 47, 61, 60, 126] : List Int)[k]'hk)]) (w.iter ⟨#[43, 45, 42, 47, 61, 60, 126]⟩ (k + 1)) := by
  rw [run_next_any w ⟨#[43, 45, 42, 47, 61, 60, 126]⟩ k ty hk]
  match k, hk with
  | 0, _ => rfl
  | 1, _ => rfl
  | 2, _ => rfl
  | 3, _ => rfl
  | 4, _ => rfl
  | 5, _ => rfl
  | 6, _ => rfl
theorem enc7 (k : Nat) (hk : k < 7) : ∃ q, ops9[k]? = some q ∧ (Utf8.encode (([43, 45, 42, 47, 61, 60, 126] : List Int)[k]'hk)).toList = q.toList := by
  match k, hk with
  | 0, _ => exact ⟨_, rfl, rfl⟩
  | 1, _ => exact ⟨_, rfl, rfl⟩
  | 2, _ => exact ⟨_, rfl, rfl⟩
  | 3, _ => exact ⟨_, rfl, rfl⟩
  | 4, _ => exact ⟨_, rfl, rfl⟩
  | 5, _ => exact ⟨_, rfl, rfl⟩
  | 6, _ => exact ⟨_, rfl, rfl⟩
theorem beq_flip (a b : List UInt8) : (a == b) = (b == a) := by rw [Bool.eq_iff_iff, beq_iff_eq, beq_iff_eq]; exact eq_comm
theorem opB_end {p : ByteArray} (h : hasB (ops9.take 7) p = false) : opB p = (p.toList == [97, 110, 100] || p.toList == [111, 114]) := by
  have e : opB p = (hasB (ops9.take 7) p || hasB (ops9.drop 7) p) := by unfold opB hasB; rw [← List.any_append, List.take_append_drop]
  rw [e, h, Bool.false_or]
  have e1 : (⟨#[97, 110, 100]⟩ : ByteArray).toList = [97, 110, 100] := by first | (simp; done) | kernel_rfl
  have e2 : (⟨#[111, 114]⟩ : ByteArray).toList = [111, 114] := by first | (simp; done) | kernel_rfl
  simp only [hasB, ops9, List.drop_succ_cons, List.drop_zero, List.any_cons, List.any_nil, Bool.or_false, e1, e2]
  rw [beq_flip [97, 110, 100], beq_flip [111, 114]]
set_option maxHeartbeats 2000000 in
set_option maxRecDepth 100000 in
theorem opOk_any (p : ByteArray) (w : World) :
    Calls Tryz.prog 119 #[.string p] w fun e w' => e = .returned (.bool (opB p)) ∧ Below w.heap.size w w' := by
  go_enter Tryz.func119, Tryz.ntmps119
  go_wp2
  go_loopw [] (fun w' => ∃ k : Nat, k ≤ 7 ∧ w' = w.iter ⟨#[43, 45, 42, 47, 61, 60, 126]⟩ k ∧ hasB (ops9.take k) p = false) (fun w' => 7 - w'.iterPos w.heap.size)
  case atStart => exact ⟨0, by omega, rfl, rfl⟩
  case round =>
    obtain ⟨k, hk, rfl, hf⟩ := hrel
    have hbel : ∀ j, Below w.heap.size w (w.iter ⟨#[43, 45, 42, 47, 61, 60, 126]⟩ j) := fun j => (Below.refl _ _).alloc (Nat.le_refl _) _
    have HF : Hid (hasB (ops9.take k) p = false) := hf
    by_cases hp : k < 7
    · have hnx : ∀ ty, (Instr.next (.pointer (some ⟨w.heap.size, 0, none⟩)) true ty).run Tryz.prog (w.iter ⟨#[43, 45, 42, 47, 61, 60, 126]⟩ k) = _ := fun ty => Tryz.next7 w ty k hp
      obtain ⟨q, hq, he⟩ := enc7 k hp
      have H1 : Hid (hasB (ops9.take (k + 1)) p = (p.toList == q.toList)) := by show _ = _; rw [hasB_take hq, hf, Bool.false_or, beq_flip]
      generalize ([43, 45, 42, 47, 61, 60, 126] : List Int)[k]'hp = z at hnx he
      have HE : Hid ((Utf8.encode z).toList = q.toList) := he
      clear hf hq he
      go_wp2
      all_goals rename_i h
      all_goals rw [HE.out] at h
      all_goals first
        | (go_returns; exact ⟨ret_bool (hasB_of_take (H1.out.trans h)).symm, hbel _⟩)
        | exact ⟨⟨k + 1, hp, rfl, H1.out.trans h⟩, by simp; omega⟩
    · have hnx : ∀ ty, (Instr.next (.pointer (some ⟨w.heap.size, 0, none⟩)) true ty).run Tryz.prog (w.iter ⟨#[43, 45, 42, 47, 61, 60, 126]⟩ k) = _ := fun ty => run_next_end w ⟨#[43, 45, 42, 47, 61, 60, 126]⟩ k ty hp
      obtain rfl : k = 7 := by omega
      have HO := opB_end hf
      have HO : Hid (opB p = (p.toList == [97, 110, 100] || p.toList == [111, 114])) := HO
      clear hf
      go_wp2
      all_goals (go_returns; refine ⟨ret_bool ?_, hbel _⟩; first | (rw [HO.out]; done) | (rw [HO.out]; simp_all))
end Go.Proofs.YtaeibfipcenhaaaGreatDoor
namespace Go.Proofs.YtaeibfipcenhaaaGreatDoor
open Go.RowKit
set_option linter.unusedVariables false
/-- whether a value is the zero value. -/
def zeroV (v : V3) : Bool := v.k == 0 && (v.n == 0 && v.s.toList == [])
def colB (n : Int) : Bool := decide (0 ≤ n) && decide (n < 12)
/-- whether the parts of an expression are right, its kids but for their number aside. -/
def partsB (e : E7) : Bool :=
  if e.k = 0 then colB e.n && zeroV e.v && e.p.toList == [] && e.ks.length == 0
  else if e.k = 1 then e.n == 0 && okB e.v.k e.v.n e.v.s && e.p.toList == [] && e.ks.length == 0
  else if e.k = 2 then e.n == 0 && zeroV e.v && opB e.p && e.ks.length == 2
  else if e.k = 3 ∨ e.k = 4 then e.n == 0 && zeroV e.v && e.p.toList == [] && e.ks.length == 1
  else false
set_option maxHeartbeats 1000000 in
theorem colOk_any (n : Int) (w : World) :
    Calls Tryz.prog 118 #[.int .i64 n] w fun e w' => e = .returned (.bool (colB n)) ∧ Below w.heap.size w w' := by
  by_cases h1 : 0 ≤ n
  · go_enter Tryz.func118, Tryz.ntmps118
    go_wp2
    go_returns
    exact ⟨ret_bool (by simp [colB, h1]), by go_grown⟩
  · go_enter Tryz.func118, Tryz.ntmps118
    go_wp2
    go_returns
    exact ⟨ret_bool (by simp [colB]; omega), by go_grown⟩
theorem mb0 (m : Nat) : ((m : Int) == 0) = (m == 0) := by rw [Bool.eq_iff_iff]; simp
theorem mb1 (m : Nat) : ((m : Int) == 1) = (m == 1) := by rw [Bool.eq_iff_iff]; simp; omega
theorem mb2 (m : Nat) : ((m : Int) == 2) = (m == 2) := by rw [Bool.eq_iff_iff]; simp; omega
theorem partsB_0 {e : E7} (h : e.k = 0) : partsB e = (colB e.n && zeroV e.v && e.p.toList == [] && e.ks.length == 0) := by simp [partsB, h]
theorem partsB_1 {e : E7} (h : e.k = 1) : partsB e = (e.n == 0 && okB e.v.k e.v.n e.v.s && e.p.toList == [] && e.ks.length == 0) := by simp [partsB, h]
theorem partsB_2 {e : E7} (h : e.k = 2) : partsB e = (e.n == 0 && zeroV e.v && opB e.p && e.ks.length == 2) := by simp [partsB, h]
theorem partsB_3 {e : E7} (h : e.k = 3) : partsB e = (e.n == 0 && zeroV e.v && e.p.toList == [] && e.ks.length == 1) := by simp [partsB, h]
theorem partsB_4 {e : E7} (h : e.k = 4) : partsB e = (e.n == 0 && zeroV e.v && e.p.toList == [] && e.ks.length == 1) := by simp [partsB, h]
theorem partsB_x {e : E7} (h0 : ¬ e.k = 0) (h1 : ¬ e.k = 1) (h2 : ¬ e.k = 2) (h3 : ¬ e.k = 3) (h4 : ¬ e.k = 4) : partsB e = false := by simp [partsB, h0, h1, h2, h3, h4]
set_option maxHeartbeats 2000000 in
set_option maxRecDepth 100000 in
theorem partsOk_0 (e : E7) (a : Option Addr) (c : Nat) (w : World) (hs : e.v.s.size ≤ maxLen) (hc : e.ks.length ≤ maxLen) (h : e.k = 0) :
    Calls Tryz.prog 114 #[(.agg #[.int .i64 e.k, .int .i64 e.n, .int .i64 e.v.k, .int .i64 e.v.n, .string e.v.s, .string e.p, (.slice a e.ks.length c)])] w fun x w' => x = .returned (.bool (partsB e)) ∧ Below w.heap.size w w' := by
  rw [partsB_0 h]
  have hq := eqV
  unfold maxLen at hc
  generalize e.ks.length = m at *
  generalize e.k = k at *
  generalize e.n = n at *
  generalize e.v = v at *
  generalize e.p = p at *
  obtain ⟨vk, vn, vs⟩ := v
  dsimp only at *
  subst h
  go_enter Tryz.func114, Tryz.ntmps114
  go_wp2_with fail
  refine Calls.mono (colOk_any n _) ?_
  rintro x w1 ⟨rfl, hb1⟩
  have hz1 := hb1.size
  simp at hz1
  have q2 : w1.cell? ⟨w.heap.size, 2, none⟩ = some (.int .i64 vk) := cell_later hb1 (by go_simp)
  have q3 : w1.cell? ⟨w.heap.size, 3, none⟩ = some (.int .i64 vn) := cell_later hb1 (by go_simp)
  have q4 : w1.cell? ⟨w.heap.size, 4, none⟩ = some (.string vs) := cell_later hb1 (by go_simp)
  have q5 : w1.cell? ⟨w.heap.size, 5, none⟩ = some (.string p) := cell_later hb1 (by go_simp)
  have z0 : w1.cell? ⟨w.heap.size + 1, 0, none⟩ = some (.int .i64 0) := cell_later hb1 (by go_simp)
  have z1 : w1.cell? ⟨w.heap.size + 1, 1, none⟩ = some (.int .i64 0) := cell_later hb1 (by go_simp)
  have z2 : w1.cell? ⟨w.heap.size + 1, 2, none⟩ = some (.string ⟨#[]⟩) := cell_later hb1 (by go_simp)
  have bel : Below w.heap.size w w1 := by repeat (first | (with_reducible exact Below.refl _ _) | (with_reducible refine Below.drew ?_) | (with_reducible refine Below.alloc ?_ ?hh _; case hh => first | (simp; done) | (simp; omega) | omega) | (with_reducible refine Below.setCell ?_ ?hh _; case hh => first | (simp; done) | (simp; omega) | omega) | refine bstep (by assumption) (by first | (simp; done) | (simp; omega) | omega) ?_)
  generalize hB : colB n = b1
  have HB : Hid _ := hB
  clear hb1 hB
  go_wp2
  all_goals (go_returns; exact ⟨ret_bool (by clear hq; (try have hB := HB.out); simp_all [zeroV, mb0]), by repeat (first | (with_reducible exact Below.refl _ _) | (with_reducible refine Below.drew ?_) | (with_reducible refine Below.alloc ?_ ?hh _; case hh => first | (simp; done) | (simp; omega) | omega) | (with_reducible refine Below.setCell ?_ ?hh _; case hh => first | (simp; done) | (simp; omega) | omega) | refine bstep (by assumption) (by first | (simp; done) | (simp; omega) | omega) ?_)⟩)
set_option maxHeartbeats 2000000 in
set_option maxRecDepth 100000 in
theorem partsOk_1 (e : E7) (a : Option Addr) (c : Nat) (w : World) (hs : e.v.s.size ≤ maxLen) (hc : e.ks.length ≤ maxLen) (h : e.k = 1) :
    Calls Tryz.prog 114 #[(.agg #[.int .i64 e.k, .int .i64 e.n, .int .i64 e.v.k, .int .i64 e.v.n, .string e.v.s, .string e.p, (.slice a e.ks.length c)])] w fun x w' => x = .returned (.bool (partsB e)) ∧ Below w.heap.size w w' := by
  rw [partsB_1 h]
  have hq := eqV
  unfold maxLen at hc
  generalize e.ks.length = m at *
  generalize e.k = k at *
  generalize e.n = n at *
  generalize e.v = v at *
  generalize e.p = p at *
  obtain ⟨vk, vn, vs⟩ := v
  dsimp only at *
  subst h
  go_enter Tryz.func114, Tryz.ntmps114
  go_wp2_with fail
  · refine Calls.mono (implValueOk_any vk vn vs _ hs) ?_
    rintro x w1 ⟨rfl, hb1⟩
    have hz1 := hb1.size
    simp at hz1
    have q5 : w1.cell? ⟨w.heap.size, 5, none⟩ = some (.string p) := cell_later hb1 (by go_simp)
    have bel : Below w.heap.size w w1 := by repeat (first | (with_reducible exact Below.refl _ _) | (with_reducible refine Below.drew ?_) | (with_reducible refine Below.alloc ?_ ?hh _; case hh => first | (simp; done) | (simp; omega) | omega) | (with_reducible refine Below.setCell ?_ ?hh _; case hh => first | (simp; done) | (simp; omega) | omega) | refine bstep (by assumption) (by first | (simp; done) | (simp; omega) | omega) ?_)
    generalize hB : okB vk vn vs = b1
    have HB : Hid _ := hB
    clear hb1 hB
    go_wp2
    all_goals (go_returns; exact ⟨ret_bool (by clear hq; (try have hB := HB.out); simp_all [mb0]), by repeat (first | (with_reducible exact Below.refl _ _) | (with_reducible refine Below.drew ?_) | (with_reducible refine Below.alloc ?_ ?hh _; case hh => first | (simp; done) | (simp; omega) | omega) | (with_reducible refine Below.setCell ?_ ?hh _; case hh => first | (simp; done) | (simp; omega) | omega) | refine bstep (by assumption) (by first | (simp; done) | (simp; omega) | omega) ?_)⟩)
  · go_returns
    exact ⟨ret_bool (by simp_all), by repeat (first | (with_reducible exact Below.refl _ _) | (with_reducible refine Below.drew ?_) | (with_reducible refine Below.alloc ?_ ?hh _; case hh => first | (simp; done) | (simp; omega) | omega) | (with_reducible refine Below.setCell ?_ ?hh _; case hh => first | (simp; done) | (simp; omega) | omega) | refine bstep (by assumption) (by first | (simp; done) | (simp; omega) | omega) ?_)⟩
set_option maxHeartbeats 2000000 in
set_option maxRecDepth 100000 in
theorem partsOk_2 (e : E7) (a : Option Addr) (c : Nat) (w : World) (hs : e.v.s.size ≤ maxLen) (hc : e.ks.length ≤ maxLen) (h : e.k = 2) :
    Calls Tryz.prog 114 #[(.agg #[.int .i64 e.k, .int .i64 e.n, .int .i64 e.v.k, .int .i64 e.v.n, .string e.v.s, .string e.p, (.slice a e.ks.length c)])] w fun x w' => x = .returned (.bool (partsB e)) ∧ Below w.heap.size w w' := by
  rw [partsB_2 h]
  have hq := eqV
  unfold maxLen at hc
  generalize e.ks.length = m at *
  generalize e.k = k at *
  generalize e.n = n at *
  generalize e.v = v at *
  generalize e.p = p at *
  obtain ⟨vk, vn, vs⟩ := v
  dsimp only at *
  subst h
  go_enter Tryz.func114, Tryz.ntmps114
  go_wp2_with fail
  · refine Calls.mono (opOk_any p _) ?_
    rintro x w1 ⟨rfl, hb1⟩
    have hz1 := hb1.size
    simp at hz1
    have bel : Below w.heap.size w w1 := by repeat (first | (with_reducible exact Below.refl _ _) | (with_reducible refine Below.drew ?_) | (with_reducible refine Below.alloc ?_ ?hh _; case hh => first | (simp; done) | (simp; omega) | omega) | (with_reducible refine Below.setCell ?_ ?hh _; case hh => first | (simp; done) | (simp; omega) | omega) | refine bstep (by assumption) (by first | (simp; done) | (simp; omega) | omega) ?_)
    generalize hB : opB p = b1
    have HB : Hid _ := hB
    clear hb1 hB
    go_wp2
    all_goals (go_returns; exact ⟨ret_bool (by clear hq; (try have hB := HB.out); simp_all [zeroV, mb2]), by repeat (first | (with_reducible exact Below.refl _ _) | (with_reducible refine Below.drew ?_) | (with_reducible refine Below.alloc ?_ ?hh _; case hh => first | (simp; done) | (simp; omega) | omega) | (with_reducible refine Below.setCell ?_ ?hh _; case hh => first | (simp; done) | (simp; omega) | omega) | refine bstep (by assumption) (by first | (simp; done) | (simp; omega) | omega) ?_)⟩)
  all_goals (go_returns; exact ⟨ret_bool (by clear hq; (try have hB := HB.out); simp_all [zeroV]), by repeat (first | (with_reducible exact Below.refl _ _) | (with_reducible refine Below.drew ?_) | (with_reducible refine Below.alloc ?_ ?hh _; case hh => first | (simp; done) | (simp; omega) | omega) | (with_reducible refine Below.setCell ?_ ?hh _; case hh => first | (simp; done) | (simp; omega) | omega) | refine bstep (by assumption) (by first | (simp; done) | (simp; omega) | omega) ?_)⟩)
set_option maxHeartbeats 2000000 in
set_option maxRecDepth 100000 in
theorem partsOk_3 (e : E7) (a : Option Addr) (c : Nat) (w : World) (hs : e.v.s.size ≤ maxLen) (hc : e.ks.length ≤ maxLen) (h : e.k = 3) :
    Calls Tryz.prog 114 #[(.agg #[.int .i64 e.k, .int .i64 e.n, .int .i64 e.v.k, .int .i64 e.v.n, .string e.v.s, .string e.p, (.slice a e.ks.length c)])] w fun x w' => x = .returned (.bool (partsB e)) ∧ Below w.heap.size w w' := by
  rw [partsB_3 h]
  have hq := eqV
  unfold maxLen at hc
  generalize e.ks.length = m at *
  generalize e.k = k at *
  generalize e.n = n at *
  generalize e.v = v at *
  generalize e.p = p at *
  obtain ⟨vk, vn, vs⟩ := v
  dsimp only at *
  subst h
  go_enter Tryz.func114, Tryz.ntmps114
  go_wp2
  all_goals (go_returns; exact ⟨ret_bool (by clear hq; (try have hB := HB.out); simp_all [zeroV, mb1]), by repeat (first | (with_reducible exact Below.refl _ _) | (with_reducible refine Below.drew ?_) | (with_reducible refine Below.alloc ?_ ?hh _; case hh => first | (simp; done) | (simp; omega) | omega) | (with_reducible refine Below.setCell ?_ ?hh _; case hh => first | (simp; done) | (simp; omega) | omega) | refine bstep (by assumption) (by first | (simp; done) | (simp; omega) | omega) ?_)⟩)
set_option maxHeartbeats 2000000 in
set_option maxRecDepth 100000 in
theorem partsOk_4 (e : E7) (a : Option Addr) (c : Nat) (w : World) (hs : e.v.s.size ≤ maxLen) (hc : e.ks.length ≤ maxLen) (h : e.k = 4) :
    Calls Tryz.prog 114 #[(.agg #[.int .i64 e.k, .int .i64 e.n, .int .i64 e.v.k, .int .i64 e.v.n, .string e.v.s, .string e.p, (.slice a e.ks.length c)])] w fun x w' => x = .returned (.bool (partsB e)) ∧ Below w.heap.size w w' := by
  rw [partsB_4 h]
  have hq := eqV
  unfold maxLen at hc
  generalize e.ks.length = m at *
  generalize e.k = k at *
  generalize e.n = n at *
  generalize e.v = v at *
  generalize e.p = p at *
  obtain ⟨vk, vn, vs⟩ := v
  dsimp only at *
  subst h
  go_enter Tryz.func114, Tryz.ntmps114
  go_wp2
  all_goals (go_returns; exact ⟨ret_bool (by clear hq; (try have hB := HB.out); simp_all [zeroV, mb1]), by repeat (first | (with_reducible exact Below.refl _ _) | (with_reducible refine Below.drew ?_) | (with_reducible refine Below.alloc ?_ ?hh _; case hh => first | (simp; done) | (simp; omega) | omega) | (with_reducible refine Below.setCell ?_ ?hh _; case hh => first | (simp; done) | (simp; omega) | omega) | refine bstep (by assumption) (by first | (simp; done) | (simp; omega) | omega) ?_)⟩)
set_option maxHeartbeats 2000000 in
set_option maxRecDepth 100000 in
theorem partsOk_x (e : E7) (a : Option Addr) (c : Nat) (w : World) (hs : e.v.s.size ≤ maxLen) (hc : e.ks.length ≤ maxLen) (h0 : ¬ e.k = 0) (h1 : ¬ e.k = 1) (h2 : ¬ e.k = 2) (h3 : ¬ e.k = 3) (h4 : ¬ e.k = 4) :
    Calls Tryz.prog 114 #[(.agg #[.int .i64 e.k, .int .i64 e.n, .int .i64 e.v.k, .int .i64 e.v.n, .string e.v.s, .string e.p, (.slice a e.ks.length c)])] w fun x w' => x = .returned (.bool (partsB e)) ∧ Below w.heap.size w w' := by
  rw [partsB_x h0 h1 h2 h3 h4]
  have hq := eqV
  unfold maxLen at hc
  generalize e.ks.length = m at *
  generalize e.k = k at *
  generalize e.n = n at *
  generalize e.v = v at *
  generalize e.p = p at *
  obtain ⟨vk, vn, vs⟩ := v
  dsimp only at *
  go_enter Tryz.func114, Tryz.ntmps114
  go_wp2
  all_goals (go_returns; exact ⟨rfl, by repeat (first | (with_reducible exact Below.refl _ _) | (with_reducible refine Below.drew ?_) | (with_reducible refine Below.alloc ?_ ?hh _; case hh => first | (simp; done) | (simp; omega) | omega) | (with_reducible refine Below.setCell ?_ ?hh _; case hh => first | (simp; done) | (simp; omega) | omega) | refine bstep (by assumption) (by first | (simp; done) | (simp; omega) | omega) ?_)⟩)
theorem partsOk_any (e : E7) (a : Option Addr) (c : Nat) (w : World) (hs : e.v.s.size ≤ maxLen) (hc : e.ks.length ≤ maxLen) :
    Calls Tryz.prog 114 #[(.agg #[.int .i64 e.k, .int .i64 e.n, .int .i64 e.v.k, .int .i64 e.v.n, .string e.v.s, .string e.p, (.slice a e.ks.length c)])] w fun x w' => x = .returned (.bool (partsB e)) ∧ Below w.heap.size w w' := by
  by_cases h0 : e.k = 0
  · exact partsOk_0 e a c w hs hc h0
  by_cases h1 : e.k = 1
  · exact partsOk_1 e a c w hs hc h1
  by_cases h2 : e.k = 2
  · exact partsOk_2 e a c w hs hc h2
  by_cases h3 : e.k = 3
  · exact partsOk_3 e a c w hs hc h3
  by_cases h4 : e.k = 4
  · exact partsOk_4 e a c w hs hc h4
  exact partsOk_x e a c w hs hc h0 h1 h2 h3 h4
end Go.Proofs.YtaeibfipcenhaaaGreatDoor
