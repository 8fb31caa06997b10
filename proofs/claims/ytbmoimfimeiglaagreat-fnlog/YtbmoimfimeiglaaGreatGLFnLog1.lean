/- Own texts, joined: contracts that the law's proof goes by. -/
import Derived.Test.YtbmoimfimeiglaaGreatProg
import Derived.WalkKit
import Derived.WalkSpells
import Derived.WalkLawsBesides
import Derived.Below
import Derived.Handy
import Derived.Laws.Bits64b
namespace Go.Proofs.YtbmoimfimeiglaaGreat
open Go.RowKit
set_option linter.unusedVariables false
theorem bcell {W w1 : World} (hb : Below W.heap.size W w1) : (∀ b o, b < W.heap.size → w1.cell? ⟨b, o, none⟩ = W.cell? ⟨b, o, none⟩) ∧ (∀ b o, b < W.heap.size → w1.frozen? ⟨b, o, none⟩ = W.frozen? ⟨b, o, none⟩) :=
  ⟨fun b o h => hb.cell (p := ⟨b, o, none⟩) h, fun b o h => hb.frozen (p := ⟨b, o, none⟩) h⟩
theorem bstep {w a b : World} (h : Below a.heap.size a b) (hw : w.heap.size ≤ a.heap.size) (g : Below w.heap.size w a) : Below w.heap.size w b := g.trans (h.mono hw)
theorem ret_int {a b : Int} (h : a = b) : Ending.returned (.int .i64 a) = .returned (.int .i64 b) := by rw [h]
theorem ret_bool {a b : Bool} (h : a = b) : Ending.returned (.bool a) = .returned (.bool b) := by rw [h]
theorem wrap64_byte (c : UInt8) : wrap64 (c.toNat : Int) = c.toNat := by have := c.toNat_lt; unfold wrap64; omega
def bn (b : Bool) : Int := if b then 1 else 0
end Go.Proofs.YtbmoimfimeiglaaGreat
namespace Go.Proofs.YtbmoimfimeiglaaGreat
open Go.RowKit
set_option linter.unusedVariables false
theorem bytes_same {x y : ByteArray} (h : x.toList = y.toList) : x = y := by
  rw [ByteArray.toList_eq, ByteArray.toList_eq] at h
  exact ByteArray.ext (Array.toList_inj.1 h)
def hasS (L : List ByteArray) (x : ByteArray) : Bool := L.any fun y => y.toList == x.toList
theorem hasS_step {L : List ByteArray} {k : Nat} {y x : ByteArray} (h : L[k]? = some y) : hasS (L.drop k) x = (y.toList == x.toList || hasS (L.drop (k + 1)) x) := by
  obtain ⟨hk, rfl⟩ := List.getElem?_eq_some_iff.1 h
  rw [List.drop_eq_getElem_cons hk]
  rfl
end Go.Proofs.YtbmoimfimeiglaaGreat
namespace Go.Proofs.YtbmoimfimeiglaaGreat
open Go.RowKit
set_option linter.unusedVariables false
def be : List UInt8 → Int := List.foldl (fun a c => 256 * a + c.toNat) 0
theorem be_snoc (l : List UInt8) (c : UInt8) : be (l ++ [c]) = 256 * be l + c.toNat := by simp [be, List.foldl_append]
theorem be_bd_aux (n : Nat) : ∀ l : List UInt8, l.length = n → 0 ≤ be l ∧ be l < 256 ^ n := by
  induction n with
  | zero => intro l hl; rw [List.eq_nil_of_length_eq_zero hl]; simp [be]
  | succ n ih =>
    intro l hl
    have hne : l ≠ [] := by intro h; rw [h] at hl; simp at hl
    rw [← List.dropLast_concat_getLast hne, be_snoc, Int.pow_succ]
    have := ih l.dropLast (by rw [List.length_dropLast, hl]; rfl)
    have := (l.getLast hne).toNat_lt
    omega
theorem pow_le8 (n : Nat) (h : n ≤ 8) : (256 : Int) ^ n ≤ 18446744073709551616 := by
  match n, h with
  | 0, _ => decide
  | 1, _ => decide
  | 2, _ => decide
  | 3, _ => decide
  | 4, _ => decide
  | 5, _ => decide
  | 6, _ => decide
  | 7, _ => decide
  | 8, _ => decide
theorem pow_le7 (n : Nat) (h : n ≤ 7) : (256 : Int) ^ n ≤ 72057594037927936 := by
  match n, h with
  | 0, _ => decide
  | 1, _ => decide
  | 2, _ => decide
  | 3, _ => decide
  | 4, _ => decide
  | 5, _ => decide
  | 6, _ => decide
  | 7, _ => decide
theorem be_bd8 (l : List UInt8) (h : l.length ≤ 8) : 0 ≤ be l ∧ be l < 18446744073709551616 := by
  have := be_bd_aux _ l rfl
  have := pow_le8 _ h
  omega
theorem be_bd7 (l : List UInt8) (h : l.length ≤ 7) : 0 ≤ be l ∧ be l < 72057594037927936 := by
  have := be_bd_aux _ l rfl
  have := pow_le7 _ h
  omega
theorem take_snoc (s : ByteArray) (k : Nat) (h : k < s.size) : s.data.toList.take (k + 1) = s.data.toList.take k ++ [s[k]] := by
  rw [List.take_succ_eq_append_getElem (by simpa using h)]; rfl
theorem or_byte (b : Int) (c : UInt8) (h0 : 0 ≤ b) (h1 : b < 72057594037927936) :
    bits BinOp.or IntKind.u64 (IntKind.u64.wrap (b * 256)) (IntKind.u64.wrap c.toNat) = 256 * b + c.toNat := by
  have hc := c.toNat_lt
  obtain ⟨n, rfl⟩ := Int.eq_ofNat_of_zero_le h0
  have e1 : IntKind.u64.wrap ((n : Int) * 256) = ((2 ^ 8 * n : Nat) : Int) := by rw [IntKind.wrap_u64]; omega
  have e2 : IntKind.u64.wrap (c.toNat : Int) = ((c.toNat : Nat) : Int) := by rw [IntKind.wrap_u64]; omega
  rw [e1, e2, bits_or_u64_nat _ _ (by omega) (by omega), ← Nat.two_pow_add_eq_or_of_lt (by omega)]
  omega
set_option maxHeartbeats 1000000 in
theorem numberOf_any (s : ByteArray) (w : World) (hs : s.size = 8) :
    Calls Tryz.prog 87 #[.string s] w fun e w' => e = .returned (.int .i64 (wrap64 (be s.data.toList))) ∧ w' = w := by
  have hs0 : Hid (s.size = 8) := hs
  have hl1 : s.size ≤ 8 := by omega
  have hl2 : 8 ≤ s.size := by omega
  clear hs
  go_enter Tryz.func87, Tryz.ntmps87
  go_wp2
  go_loop [3, 4] (fun u i => ∃ k : Nat, k ≤ s.size ∧ i = .int .i64 k ∧ u = .int .u64 (be (s.data.toList.take k))) (fun _ i => s.size - (intOf i).toNat)
  case atStart => exact ⟨0, Nat.zero_le _, rfl, rfl⟩
  case round =>
    obtain ⟨k, hk, rfl, rfl⟩ := hrel
    by_cases hlt : k < s.size
    · have hb : Hid (bits BinOp.or IntKind.u64 (IntKind.u64.wrap (be (s.data.toList.take k) * 256)) (IntKind.u64.wrap s[k].toNat) = be (s.data.toList.take (k + 1))) := by
        have hb := be_bd7 (s.data.toList.take k) (by rw [List.length_take]; omega)
        show _ = _
        rw [or_byte _ _ hb.1 hb.2, take_snoc s k hlt, be_snoc]
      go_wp2
      exact ⟨⟨k + 1, by omega, by go_num, by rw [hb.out]⟩, by simp [intOf]; omega⟩
    · have hfin : Hid (s.data.toList.take k = s.data.toList) := List.take_of_length_le (by simp; omega)
      go_wp2
      go_returns
      exact ⟨ret_int (by rw [hfin.out]), rfl⟩
end Go.Proofs.YtbmoimfimeiglaaGreat
