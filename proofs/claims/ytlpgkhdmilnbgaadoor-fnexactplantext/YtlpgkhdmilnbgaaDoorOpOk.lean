/- Own text. The signs: the contracts of impl.opOk and spec.l03Has. -/
import Derived.Test.YtlpgkhdmilnbgaaDoorExpK
import Derived.Handy
import Derived.Laws.RangeAny
namespace Go.Proofs.YtlpgkhdmilnbgaaDoor
open Go.RowKit
set_option linter.unusedVariables false
/-- the signs of one byte. -/
def signs : List ByteArray := [⟨#[43]⟩, ⟨#[45]⟩, ⟨#[42]⟩, ⟨#[47]⟩, ⟨#[61]⟩, ⟨#[60]⟩, ⟨#[126]⟩]
/-- all signs. -/
def ops9 : List ByteArray := [⟨#[43]⟩, ⟨#[45]⟩, ⟨#[42]⟩, ⟨#[47]⟩, ⟨#[61]⟩, ⟨#[60]⟩, ⟨#[126]⟩, ⟨#[97, 110, 100]⟩, ⟨#[111, 114]⟩]
/-- whether it is one of these. -/
def hasB (l : List ByteArray) (p : ByteArray) : Bool := l.any fun q => q.toList == p.toList
def opB (p : ByteArray) : Bool := hasB ops9 p
theorem hasB_take {l : List ByteArray} {k : Nat} {q p : ByteArray} (h : l[k]? = some q) : hasB (l.take (k + 1)) p = (hasB (l.take k) p || q.toList == p.toList) := by
  obtain ⟨hk, rfl⟩ := List.getElem?_eq_some_iff.1 h
  unfold hasB
  rw [List.take_succ_eq_append_getElem hk, List.any_append]
  simp
theorem hasB_of_take {l : List ByteArray} {k : Nat} {p : ByteArray} (h : hasB (l.take k) p = true) : hasB l p = true := by
  unfold hasB at h ⊢
  obtain ⟨q, hq, e⟩ := List.any_eq_true.1 h
  exact List.any_eq_true.2 ⟨q, List.mem_of_mem_take hq, e⟩
set_option maxHeartbeats 2000000 in
set_option maxRecDepth 100000 in
theorem l03Has_any (b o c : Nat) (l : List ByteArray) (p : ByteArray) (w : World) (hl : l.length ≤ c) (hc : c ≤ 1000) (hlt : b < w.heap.size) (h : ∀ i q, l[i]? = some q → w.cell? ⟨b, o + i, none⟩ = some (.string q)) :
    Calls Tryd.prog 48 #[.slice (some ⟨b, o, none⟩) l.length c, .string p] w fun e w' => e = .returned (.bool (hasB l p)) ∧ Below w.heap.size w w' := by
  go_enter Tryd.func48, Tryd.ntmps48
  go_wp2
  go_loopw [5] (fun i wr => ∃ k : Nat, k ≤ l.length ∧ i = .int .i64 k ∧ hasB (l.take k) p = false ∧ Below w.heap.size w wr) (fun i _ => l.length - (intOf i).toNat)
  case atStart => exact ⟨0, Nat.zero_le _, rfl, rfl, by go_grown⟩
  case round =>
    obtain ⟨k, hk, rfl, hf, hb⟩ := hrel
    by_cases hkt : k < l.length
    · obtain ⟨q, hq⟩ : ∃ q, l[k]? = some q := ⟨l[k], by simp [hkt]⟩
      have c0 : wr.cell? ⟨b, o + k, none⟩ = some (.string q) := (hb.cell (p := ⟨b, o + k, none⟩) hlt).trans (h k q hq)
      have H1 : Hid (hasB (l.take (k + 1)) p = (q.toList == p.toList)) := by show _ = _; rw [hasB_take hq, hf, Bool.false_or]
      have HF : Hid (hasB (l.take k) p = false) := hf
      clear h hq hf
      by_cases he : (q.toList == p.toList) = true
      · go_wp2
        go_returns
        refine ⟨ret_bool ?_, hb⟩
        rw [hasB_of_take (H1.out.trans he)]
      · have he' : (q.toList == p.toList) = false := by simpa using he
        go_wp2
        exact ⟨⟨k + 1, hkt, by simp, H1.out.trans he', by repeat (first | (with_reducible exact Below.refl _ _) | (with_reducible refine Below.drew ?_) | (with_reducible refine Below.alloc ?_ ?hh _; case hh => first | (simp; done) | (simp; omega) | omega) | (with_reducible refine Below.setCell ?_ ?hh _; case hh => first | (simp; done) | (simp; omega) | omega) | refine bstep (by assumption) (by first | (simp; done) | (simp; omega) | omega) ?_)⟩, by simp [intOf]; omega⟩
    · have hkk : k = l.length := by omega
      subst hkk
      rw [List.take_length] at hf
      have HF : Hid (hasB l p = false) := hf
      clear hf h
      go_wp2
      go_returns
      exact ⟨ret_bool HF.out.symm, hb⟩
theorem Tryd.next7 (w : World) (ty : TypeId) (k : Nat) (hk : k < 7) : (Instr.next (.pointer (some ⟨w.heap.size, 0, none⟩)) true ty).run Tryd.prog (w.iter ⟨#[43, 45, 42, 47, 61, 60, 126]⟩ k) = .ok (.tuple #[.bool true, .int .i64 k, .int .i32 (([43, 45, 42, 47, 61, 60, 126] : List Int)[k]'hk)]) (w.iter ⟨#[43, 45, 42, 47, 61, 60, 126]⟩ (k + 1)) := by
  rw [run_next_any w ⟨#[43, 45, 42, 47, 61, 60, 126]⟩ k ty hk]
  match k, hk with
  | 0, _ => rfl
  | 1, _ => rfl
  | 2, _ => rfl
  | 3, _ => rfl
  | 4, _ => rfl
  | 5, _ => rfl
  | 6, _ => rfl
theorem enc7 (k : Nat) (hk : k < 7) : ∃ q, ops9[k]? = some q ∧ (Utf8.encode (([43, 45, 42, 47, 61, 60, 126] : List Int)[k]'hk)).toList = q.toList := by
  match k, hk with
  | 0, _ => exact ⟨_, rfl, rfl⟩
  | 1, _ => exact ⟨_, rfl, rfl⟩
  | 2, _ => exact ⟨_, rfl, rfl⟩
  | 3, _ => exact ⟨_, rfl, rfl⟩
  | 4, _ => exact ⟨_, rfl, rfl⟩
  | 5, _ => exact ⟨_, rfl, rfl⟩
  | 6, _ => exact ⟨_, rfl, rfl⟩
theorem beq_flip (a b : List UInt8) : (a == b) = (b == a) := by rw [Bool.eq_iff_iff, beq_iff_eq, beq_iff_eq]; exact eq_comm
theorem opB_end {p : ByteArray} (h : hasB (ops9.take 7) p = false) : opB p = (p.toList == [97, 110, 100] || p.toList == [111, 114]) := by
  have e : opB p = (hasB (ops9.take 7) p || hasB (ops9.drop 7) p) := by unfold opB hasB; rw [← List.any_append, List.take_append_drop]
  rw [e, h, Bool.false_or]
  have e1 : (⟨#[97, 110, 100]⟩ : ByteArray).toList = [97, 110, 100] := by first | (simp; done) | kernel_rfl
  have e2 : (⟨#[111, 114]⟩ : ByteArray).toList = [111, 114] := by first | (simp; done) | kernel_rfl
  simp only [hasB, ops9, List.drop_succ_cons, List.drop_zero, List.any_cons, List.any_nil, Bool.or_false, e1, e2]
  rw [beq_flip [97, 110, 100], beq_flip [111, 114]]
set_option maxHeartbeats 2000000 in
set_option maxRecDepth 100000 in
theorem opOk_any (p : ByteArray) (w : World) :
    Calls Tryd.prog 58 #[.string p] w fun e w' => e = .returned (.bool (opB p)) ∧ Below w.heap.size w w' := by
  go_enter Tryd.func58, Tryd.ntmps58
  go_wp2
  go_loopw [] (fun w' => ∃ k : Nat, k ≤ 7 ∧ w' = w.iter ⟨#[43, 45, 42, 47, 61, 60, 126]⟩ k ∧ hasB (ops9.take k) p = false) (fun w' => 7 - w'.iterPos w.heap.size)
  case atStart => exact ⟨0, by omega, rfl, rfl⟩
  case round =>
    obtain ⟨k, hk, rfl, hf⟩ := hrel
    have hbel : ∀ j, Below w.heap.size w (w.iter ⟨#[43, 45, 42, 47, 61, 60, 126]⟩ j) := fun j => (Below.refl _ _).alloc (Nat.le_refl _) _
    have HF : Hid (hasB (ops9.take k) p = false) := hf
    by_cases hp : k < 7
    · have hnx : ∀ ty, (Instr.next (.pointer (some ⟨w.heap.size, 0, none⟩)) true ty).run Tryd.prog (w.iter ⟨#[43, 45, 42, 47, 61, 60, 126]⟩ k) = _ := fun ty => Tryd.next7 w ty k hp
      obtain ⟨q, hq, he⟩ := enc7 k hp
      have H1 : Hid (hasB (ops9.take (k + 1)) p = (p.toList == q.toList)) := by show _ = _; rw [hasB_take hq, hf, Bool.false_or, beq_flip]
      generalize ([43, 45, 42, 47, 61, 60, 126] : List Int)[k]'hp = z at hnx he
      have HE : Hid ((Utf8.encode z).toList = q.toList) := he
      clear hf hq he
      go_wp2
      all_goals rename_i h
      all_goals rw [HE.out] at h
      all_goals first
        | (go_returns; exact ⟨ret_bool (hasB_of_take (H1.out.trans h)).symm, hbel _⟩)
        | exact ⟨⟨k + 1, hp, rfl, H1.out.trans h⟩, by simp; omega⟩
    · have hnx : ∀ ty, (Instr.next (.pointer (some ⟨w.heap.size, 0, none⟩)) true ty).run Tryd.prog (w.iter ⟨#[43, 45, 42, 47, 61, 60, 126]⟩ k) = _ := fun ty => run_next_end w ⟨#[43, 45, 42, 47, 61, 60, 126]⟩ k ty hp
      obtain rfl : k = 7 := by omega
      have HO := opB_end hf
      have HO : Hid (opB p = (p.toList == [97, 110, 100] || p.toList == [111, 114])) := HO
      clear hf
      go_wp2
      all_goals (go_returns; refine ⟨ret_bool ?_, hbel _⟩; first | (rw [HO.out]; done) | (rw [HO.out]; simp_all))
end Go.Proofs.YtlpgkhdmilnbgaaDoor
