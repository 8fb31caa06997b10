/- Own texts, joined: contracts that the law's proof goes by. -/
import Derived.Test.YtaeibfipcenhaaaGreatDoorGLViewsOk1
import Derived.Handy
import Derived.Test.YtaeibfipcenhaaaGreatDoorGLViewsOk7
import Derived.Test.YtaeibfipcenhaaaGreatDoorGLViewsOk13
import Derived.Deep.RegionHeld3
namespace Go.Proofs.YtaeibfipcenhaaaGreatDoor
open Go.RowKit
set_option linter.unusedVariables false
/-- a number between two others. -/
def inB (x a b : Int) : Bool := decide (a ≤ x ∧ x ≤ b)
set_option maxHeartbeats 400000 in
theorem l01InN_any (x a b : Int) (w : World) :
    Calls Tryz.prog 29 #[.int .i64 x, .int .i64 a, .int .i64 b] w fun e w' => e = .returned (.bool (inB x a b)) ∧ w' = w := by
  by_cases h : a ≤ x
  · go_enter Tryz.func29, Tryz.ntmps29
    go_wp2
    go_returns
    exact ⟨by simp [inB, h], rfl⟩
  · have h' : decide (a ≤ x) = false := by simp; omega
    go_enter Tryz.func29, Tryz.ntmps29
    go_wp2
    go_returns
    exact ⟨ret_bool (by simp [inB]; omega), rfl⟩
end Go.Proofs.YtaeibfipcenhaaaGreatDoor
namespace Go.Proofs.YtaeibfipcenhaaaGreatDoor
open Go.RowKit
set_option linter.unusedVariables false
set_option maxHeartbeats 400000 in
theorem isSmall_any (c : Int) (w : World) :
    Calls Tryz.prog 35 #[.int .u8 c] w fun e w' => e = .returned (.bool (inB c 97 122)) ∧ w' = w := by
  by_cases h : 97 ≤ c
  · go_enter Tryz.func35, Tryz.ntmps35
    go_wp2
    go_returns
    exact ⟨by simp [inB, h], rfl⟩
  · have h' : decide (97 ≤ c) = false := by simp; omega
    go_enter Tryz.func35, Tryz.ntmps35
    go_wp2
    go_returns
    exact ⟨ret_bool (by simp [inB]; omega), rfl⟩
set_option maxHeartbeats 400000 in
theorem isDigit_any (c : Int) (w : World) :
    Calls Tryz.prog 36 #[.int .u8 c] w fun e w' => e = .returned (.bool (inB c 48 57)) ∧ w' = w := by
  by_cases h : 48 ≤ c
  · go_enter Tryz.func36, Tryz.ntmps36
    go_wp2
    go_returns
    exact ⟨by simp [inB, h], rfl⟩
  · have h' : decide (48 ≤ c) = false := by simp; omega
    go_enter Tryz.func36, Tryz.ntmps36
    go_wp2
    go_returns
    exact ⟨ret_bool (by simp [inB]; omega), rfl⟩
/-- a byte that may stand at place i of a name. -/
def chr (i : Nat) (c : Int) : Bool := inB c 97 122 || (i != 0 && inB c 48 57)
/-- the first n bytes may stand in a name. -/
def NameP (s : ByteArray) (n : Nat) : Prop := ∀ i (h : i < s.size), i < n → chr i s[i].toNat = true
/-- whether a text is a name. -/
def nameB (s : ByteArray) : Bool := (List.range s.size).all (fun i => if h : i < s.size then chr i s[i].toNat else true) && inB s.size 1 10
theorem nameB_true (s : ByteArray) (h : NameP s s.size) : nameB s = inB s.size 1 10 := by
  have : (List.range s.size).all (fun i => if h : i < s.size then chr i s[i].toNat else true) = true := by
    rw [List.all_eq_true]
    intro i hi
    have hi' := List.mem_range.1 hi
    rw [dif_pos hi']; exact h i hi' hi'
  rw [nameB, this, Bool.true_and]
theorem nameB_false (s : ByteArray) (k : Nat) (hk : k < s.size) (h : chr k s[k].toNat = false) : nameB s = false := by
  have : (List.range s.size).all (fun i => if h : i < s.size then chr i s[i].toNat else true) = false := by
    rw [List.all_eq_false]
    exact ⟨k, List.mem_range.2 hk, by rw [dif_pos hk, h]; simp⟩
  rw [nameB, this, Bool.false_and]
theorem nameB_big (s : ByteArray) (h : inB s.size 1 10 = false) : nameB s = false := by rw [nameB, h, Bool.and_false]
theorem NameP_succ (s : ByteArray) (k : Nat) (hk : k < s.size) (h : NameP s k) (hc : chr k s[k].toNat = true) : NameP s (k + 1) := by
  intro i hi hl
  by_cases e : i = k
  · subst e; exact hc
  · exact h i hi (by omega)
set_option maxHeartbeats 1000000 in
set_option maxRecDepth 100000 in
theorem specName_any (s : ByteArray) (w : World) (hs : s.size ≤ maxLen) :
    Calls Tryz.prog 15 #[.string s] w fun e w' => e = .returned (.bool (nameB s)) ∧ w' = w := by
  unfold maxLen at hs
  go_enter Tryz.func15, Tryz.ntmps15
  go_wp2_with fail
  go_loop [3] (fun i => ∃ k : Nat, k ≤ s.size ∧ i = .int .i64 k ∧ NameP s k) (fun i => s.size - (intOf i).toNat)
  case atStart => exact ⟨0, Nat.zero_le _, rfl, fun i h hl => by omega⟩
  case round =>
    obtain ⟨k, hk, rfl, hp0⟩ := hrel
    have hp : Hid (NameP s k) := hp0
    clear hp0
    by_cases hlt : k < s.size
    · have e64 : wrap64 (s[k].toNat : Int) = s[k].toNat := wrap64_byte _
      by_cases h1 : inB (wrap64 s[k].toNat) 97 122 = true
      · have hc : Hid (chr k s[k].toNat = true) := by show chr k s[k].toNat = true; rw [e64] at h1; simp [chr, h1]
        clear e64
        go_wp2_with (first | (go_at_call 29; refine (l01InN_any _ _ _ _).mono ?_; rintro e w' ⟨rfl, rfl⟩))
        exact ⟨⟨k + 1, by omega, by go_num, NameP_succ s k hlt hp.out hc.out⟩, by simp [intOf]; omega⟩
      · have h1' : inB (wrap64 s[k].toNat) 97 122 = false := by simpa using h1
        clear h1
        by_cases h0 : k = 0
        · subst h0
          have hc : Hid (nameB s = false) := by show nameB s = false; rw [e64] at h1'; exact nameB_false s 0 hlt (by simp [chr, h1'])
          clear e64
          go_wp2_with (first | (go_at_call 29; refine (l01InN_any _ _ _ _).mono ?_; rintro e w' ⟨rfl, rfl⟩))
          go_returns
          exact ⟨ret_bool hc.out.symm, rfl⟩
        · have hk0 : ((k : Int) == 0) = false := by simp; omega
          by_cases h2 : inB (wrap64 s[k].toNat) 48 57 = true
          · have hc : Hid (chr k s[k].toNat = true) := by show chr k s[k].toNat = true; rw [e64] at h2; simp [chr, h2, h0]
            clear e64
            go_wp2_with (first | (go_at_call 29; refine (l01InN_any _ _ _ _).mono ?_; rintro e w' ⟨rfl, rfl⟩))
            exact ⟨⟨k + 1, by omega, by go_num, NameP_succ s k hlt hp.out hc.out⟩, by simp [intOf]; omega⟩
          · have h2' : inB (wrap64 s[k].toNat) 48 57 = false := by simpa using h2
            clear h2
            have hc : Hid (nameB s = false) := by show nameB s = false; rw [e64] at h1' h2'; exact nameB_false s k hlt (by simp [chr, h1', h2'])
            clear e64
            go_wp2_with (first | (go_at_call 29; refine (l01InN_any _ _ _ _).mono ?_; rintro e w' ⟨rfl, rfl⟩))
            go_returns
            exact ⟨ret_bool hc.out.symm, rfl⟩
    · have hkk : k = s.size := by omega
      have hfin : Hid (nameB s = inB s.size 1 10) := by show nameB s = inB s.size 1 10; have := hp.out; rw [hkk] at this; exact nameB_true s this
      clear hkk
      go_wp2_with (first | (go_at_call 29; refine (l01InN_any _ _ _ _).mono ?_; rintro e w' ⟨rfl, rfl⟩))
      go_returns
      exact ⟨ret_bool hfin.out.symm, rfl⟩
set_option maxHeartbeats 1000000 in
set_option maxRecDepth 100000 in
theorem implName_any (s : ByteArray) (w : World) (hs : s.size ≤ maxLen) :
    Calls Tryz.prog 21 #[.string s] w fun e w' => e = .returned (.bool (nameB s)) ∧ w' = w := by
  unfold maxLen at hs
  by_cases hz : s.size = 0
  · have hfin : Hid (nameB s = false) := nameB_big s (by simp [inB, hz])
    have hnil : s.toList = [] := by rw [ByteArray.toList_eq]; exact List.eq_nil_of_length_eq_zero (by simpa using hz)
    clear hz
    go_enter Tryz.func21, Tryz.ntmps21
    go_wp2_with fail
    go_returns
    exact ⟨ret_bool hfin.out.symm, rfl⟩
  have hne : s.toList.isEmpty = false := by
    rw [ByteArray.toList_eq]
    have : s.data.toList.length ≠ 0 := by simpa using hz
    cases h : s.data.toList with
    | nil => rw [h] at this; simp at this
    | cons a l => rfl
  by_cases hb : 10 < (s.size : Int)
  · have hfin : Hid (nameB s = false) := nameB_big s (by simp [inB]; omega)
    go_enter Tryz.func21, Tryz.ntmps21
    go_wp2_with fail
    go_returns
    exact ⟨ret_bool hfin.out.symm, rfl⟩
  have hpos : 0 < s.size := by omega
  have hd : decide (10 < (s.size : Int)) = false := by simp; omega
  by_cases h0 : inB s[0].toNat 97 122 = true
  · have hc0 : Hid (chr 0 s[0].toNat = true) := by show chr 0 s[0].toNat = true; simp [chr, h0]
    go_enter Tryz.func21, Tryz.ntmps21
    go_wp2_with (first | (go_at_call 35; refine (isSmall_any _ _).mono ?_; rintro e w' ⟨rfl, rfl⟩) | (go_at_call 36; refine (isDigit_any _ _).mono ?_; rintro e w' ⟨rfl, rfl⟩))
    go_loop [3] (fun i => ∃ k : Nat, 1 ≤ k ∧ k ≤ s.size ∧ i = .int .i64 k ∧ NameP s k) (fun i => s.size - (intOf i).toNat)
    case atStart => exact ⟨1, by omega, by omega, rfl, fun i h hl => by have e : i = 0 := (by omega); subst e; exact hc0.out⟩
    case round =>
      obtain ⟨k, hk1, hk, rfl, hp0⟩ := hrel
      have hp : Hid (NameP s k) := hp0
      clear hp0
      by_cases hlt : k < s.size
      · by_cases h1 : inB s[k].toNat 97 122 = true
        · have hc : Hid (chr k s[k].toNat = true) := by show chr k s[k].toNat = true; simp [chr, h1]
          go_wp2_with (first | (go_at_call 35; refine (isSmall_any _ _).mono ?_; rintro e w' ⟨rfl, rfl⟩) | (go_at_call 36; refine (isDigit_any _ _).mono ?_; rintro e w' ⟨rfl, rfl⟩))
          exact ⟨⟨k + 1, by omega, by omega, by go_num, NameP_succ s k hlt hp.out hc.out⟩, by simp [intOf]; omega⟩
        · have h1' : inB s[k].toNat 97 122 = false := by simpa using h1
          clear h1
          by_cases h2 : inB s[k].toNat 48 57 = true
          · have hc : Hid (chr k s[k].toNat = true) := by show chr k s[k].toNat = true; have : k ≠ 0 := (by omega); simp [chr, h2, this]
            go_wp2_with (first | (go_at_call 35; refine (isSmall_any _ _).mono ?_; rintro e w' ⟨rfl, rfl⟩) | (go_at_call 36; refine (isDigit_any _ _).mono ?_; rintro e w' ⟨rfl, rfl⟩))
            exact ⟨⟨k + 1, by omega, by omega, by go_num, NameP_succ s k hlt hp.out hc.out⟩, by simp [intOf]; omega⟩
          · have h2' : inB s[k].toNat 48 57 = false := by simpa using h2
            clear h2
            have hc : Hid (nameB s = false) := nameB_false s k hlt (by simp [chr, h1', h2'])
            go_wp2_with (first | (go_at_call 35; refine (isSmall_any _ _).mono ?_; rintro e w' ⟨rfl, rfl⟩) | (go_at_call 36; refine (isDigit_any _ _).mono ?_; rintro e w' ⟨rfl, rfl⟩))
            go_returns
            exact ⟨ret_bool hc.out.symm, rfl⟩
      · have hkk : k = s.size := by omega
        have hfin : Hid (nameB s = true) := by show nameB s = true; have := hp.out; rw [hkk] at this; rw [nameB_true s this]; simp [inB]; omega
        clear hkk
        go_wp2_with (first | (go_at_call 35; refine (isSmall_any _ _).mono ?_; rintro e w' ⟨rfl, rfl⟩) | (go_at_call 36; refine (isDigit_any _ _).mono ?_; rintro e w' ⟨rfl, rfl⟩))
        go_returns
        exact ⟨ret_bool hfin.out.symm, rfl⟩
  · have h0' : inB s[0].toNat 97 122 = false := by simpa using h0
    clear h0
    have hfin : Hid (nameB s = false) := nameB_false s 0 hpos (by simp [chr, h0'])
    go_enter Tryz.func21, Tryz.ntmps21
    go_wp2_with (first | (go_at_call 35; refine (isSmall_any _ _).mono ?_; rintro e w' ⟨rfl, rfl⟩) | (go_at_call 36; refine (isDigit_any _ _).mono ?_; rintro e w' ⟨rfl, rfl⟩))
    go_returns
    exact ⟨ret_bool hfin.out.symm, rfl⟩
end Go.Proofs.YtaeibfipcenhaaaGreatDoor
namespace Go.Proofs.YtaeibfipcenhaaaGreatDoor
open Go.RowKit
set_option linter.unusedVariables false
theorem bless_asymm : ∀ {x y : List UInt8}, Op.bytesLess x y = true → Op.bytesLess y x = false
  | [], _, _ => by cases ‹List UInt8› <;> simp_all [Op.bytesLess]
  | _ :: _, [], h => by simp [Op.bytesLess] at h
  | a :: x, b :: y, h => by
    simp only [Op.bytesLess] at h ⊢
    rcases Nat.lt_trichotomy a.toNat b.toNat with h1 | h1 | h1
    · have e : ¬ b < a := by simp [UInt8.lt_iff_toNat_lt]; omega
      have e' : ¬ b = a := by rintro rfl; omega
      simp [e, e']
    · obtain rfl : a = b := UInt8.toNat_inj.1 h1
      have e : ¬ a < a := by simp
      simp [e] at h ⊢
      exact bless_asymm h
    · have e : ¬ a < b := by simp [UInt8.lt_iff_toNat_lt]; omega
      have e' : ¬ a = b := by rintro rfl; omega
      simp [e, e'] at h
theorem bless_total : ∀ {x y : List UInt8}, Op.bytesLess x y = false → x ≠ y → Op.bytesLess y x = true
  | [], [], _, h => absurd rfl h
  | [], b :: y, h, _ => by simp [Op.bytesLess] at h
  | a :: x, [], _, _ => by simp [Op.bytesLess]
  | a :: x, b :: y, h, hn => by
    simp only [Op.bytesLess] at h ⊢
    rcases Nat.lt_trichotomy a.toNat b.toNat with h1 | h1 | h1
    · have e : a < b := by simp [UInt8.lt_iff_toNat_lt]; omega
      simp [e] at h
    · obtain rfl : a = b := UInt8.toNat_inj.1 h1
      have e : ¬ a < a := by simp
      simp [e] at h ⊢
      exact bless_total h (by rintro rfl; exact hn rfl)
    · have e : b < a := by simp [UInt8.lt_iff_toNat_lt]; omega
      simp [e]
theorem bless_irrefl : ∀ (x : List UInt8), Op.bytesLess x x = false
  | [] => by simp [Op.bytesLess]
  | a :: x => by
    have e : ¬ a < a := by simp
    simp [Op.bytesLess, e, bless_irrefl x]
end Go.Proofs.YtaeibfipcenhaaaGreatDoor
namespace Go.Proofs.YtaeibfipcenhaaaGreatDoor
open Go.RowKit
set_option linter.unusedVariables false
/-- whether the name before, if there is one, is less. -/
def okPrevR (p : Option R3) (x : R3) : Bool := match p with
  | none => true
  | some y => Op.bytesLess y.s.toList x.s.toList
/-- whether relations have names and plain bags, and ascend. -/
def okRs : Option R3 → List R3 → Bool
  | _, [] => true
  | p, x :: xs => nameB x.s && okPlain x.W x.cs && okPrevR p x && okRs (some x) xs
def prevR (rs : List R3) (k : Nat) : Option R3 := if k = 0 then none else rs[k - 1]?
/-- whether relations are a database. -/
def okDb (rs : List R3) : Bool := decide (rs.length ≤ 20) && okRs none rs
theorem okRs_step {rs : List R3} {k : Nat} {x : R3} (h : rs[k]? = some x) :
    okRs (prevR rs k) (rs.drop k) = (nameB x.s && okPlain x.W x.cs && okPrevR (prevR rs k) x && okRs (prevR rs (k + 1)) (rs.drop (k + 1))) := by
  obtain ⟨hk, rfl⟩ := List.getElem?_eq_some_iff.1 h
  rw [List.drop_eq_getElem_cons hk]
  simp [okRs, prevR, hk]
theorem prevR_zero (rs : List R3) : prevR rs 0 = none := rfl
theorem prevR_succ {rs : List R3} {j : Nat} {y : R3} (h : rs[j]? = some y) : prevR rs (j + 1) = some y := by simp [prevR, h]
set_option maxHeartbeats 4000000 in
set_option maxRecDepth 100000 in
theorem implDbOk_any (v : Value) (rs : List R3) (w : World) (hw : RsWf rs) (hr : RelsIs w v rs) :
    Calls Tryz.prog 20 #[v] w fun e w' => e = .returned (.bool (okDb rs)) ∧ Below w.heap.size w w' := by
  obtain ⟨a, c, b, o, rfl, hl, hc, ha⟩ := hr.pick
  unfold maxLen at hc
  clear hr
  by_cases h2 : 20 < (rs.length : Int)
  · go_enter Tryz.func20, Tryz.ntmps20
    go_wp2
    go_returns
    exact ⟨ret_bool (by simp [okDb, show ¬ rs.length ≤ 20 from by omega]), by go_grown⟩
  have HB : Hid (okDb rs = okRs none rs) := by simp [Hid, okDb, show rs.length ≤ 20 from by omega]
  go_enter Tryz.func20, Tryz.ntmps20
  go_wp2
  go_loopw [10] (fun i wr => ∃ (k : Nat) (q : Int), k ≤ rs.length ∧ q = k ∧ i = .int .i64 q ∧ Below w.heap.size w wr ∧ okRs none rs = okRs (prevR rs k) (rs.drop k)) (fun i _ => rs.length - (intOf i).toNat)
  case atStart => exact ⟨0, 0, Nat.zero_le _, rfl, rfl, by go_grown, by simp [prevR]⟩
  case round =>
    obtain ⟨k, q, hk, hq, rfl, hb, heq⟩ := hrel
    have HE : Hid (okRs none rs = okRs (prevR rs k) (rs.drop k)) := heq
    have hzb := hb.size
    clear heq
    by_cases hlt : k < rs.length
    · obtain ⟨rfl, hblt, hL⟩ := ha k hlt
      obtain ⟨x, u, hx, c0, c1, c2, hR, hbr⟩ := hL.at hblt hb hlt
      obtain ⟨ur, lr, cr, rfl⟩ := hR.shape
      obtain ⟨hxs, _, hxw⟩ := hw x (List.mem_of_getElem? hx)
      have HS : Hid (okRs (prevR rs k) (rs.drop k) = (nameB x.s && okPlain x.W x.cs && okPrevR (prevR rs k) x && okRs (prevR rs (k + 1)) (rs.drop (k + 1)))) := okRs_step hx
      by_cases hnm : nameB x.s = true
      rotate_left
      · have hf : nameB x.s = false := by simpa using hnm
        clear ha hw hL hx
        subst hq
        go_wp2_with (first | (go_at_call 21; refine (implName_any x.s _ hxs).mono ?_; rintro e w1 ⟨rfl, rfl⟩) | (go_at_call 34; refine Calls.mono (implPlain_any x.W _ x.cs _ hxw (hR.below (by repeat (first | exact Below.refl _ _ | refine Below.drew ?_ | refine Below.alloc ?_ (by first | (simp; done) | (simp; omega) | omega) _ | refine Below.setCell ?_ (by first | (simp; done) | (simp; omega) | omega) _ | refine bstep (by assumption) (by first | (simp; done) | (simp; omega) | omega) ?_)))) ?_; rintro e w2 ⟨rfl, hb2⟩; have hz2 := hb2.size; (try simp at hz2); have n2 : w2.cell? ⟨wr.heap.size, 0, none⟩ = some (.string x.s) := cell_later hb2 (by go_simp)) | fail)
        go_returns
        refine ⟨ret_bool ?_, by repeat (first | exact Below.refl _ _ | refine Below.drew ?_ | refine Below.alloc ?_ (by first | (simp; done) | (simp; omega) | omega) _ | refine Below.setCell ?_ (by first | (simp; done) | (simp; omega) | omega) _ | refine bstep (by assumption) (by first | (simp; done) | (simp; omega) | omega) ?_)⟩
        rw [HB.out, HE.out, HS.out, hf]
        simp
      by_cases hpl : okPlain x.W x.cs = true
      rotate_left
      · have hf : okPlain x.W x.cs = false := by simpa using hpl
        clear ha hw hL hx
        subst hq
        go_wp2_with (first | (go_at_call 21; refine (implName_any x.s _ hxs).mono ?_; rintro e w1 ⟨rfl, rfl⟩) | (go_at_call 34; refine Calls.mono (implPlain_any x.W _ x.cs _ hxw (hR.below (by repeat (first | exact Below.refl _ _ | refine Below.drew ?_ | refine Below.alloc ?_ (by first | (simp; done) | (simp; omega) | omega) _ | refine Below.setCell ?_ (by first | (simp; done) | (simp; omega) | omega) _ | refine bstep (by assumption) (by first | (simp; done) | (simp; omega) | omega) ?_)))) ?_; rintro e w2 ⟨rfl, hb2⟩; have hz2 := hb2.size; (try simp at hz2); have n2 : w2.cell? ⟨wr.heap.size, 0, none⟩ = some (.string x.s) := cell_later hb2 (by go_simp)) | fail)
        go_returns
        refine ⟨ret_bool ?_, by repeat (first | exact Below.refl _ _ | refine Below.drew ?_ | refine Below.alloc ?_ (by first | (simp; done) | (simp; omega) | omega) _ | refine Below.setCell ?_ (by first | (simp; done) | (simp; omega) | omega) _ | refine bstep (by assumption) (by first | (simp; done) | (simp; omega) | omega) ?_)⟩
        rw [HB.out, HE.out, HS.out, hf]
        simp
      rcases Nat.eq_zero_or_pos k with hk0 | hk0
      · subst hk0
        obtain rfl : q = 0 := by simpa using hq
        rw [Nat.zero_mul, Nat.add_zero] at c0 c1 c2
        clear ha hw hL hx hq
        go_wp2_with (first | (go_at_call 21; refine (implName_any x.s _ hxs).mono ?_; rintro e w1 ⟨rfl, rfl⟩) | (go_at_call 34; refine Calls.mono (implPlain_any x.W _ x.cs _ hxw (hR.below (by repeat (first | exact Below.refl _ _ | refine Below.drew ?_ | refine Below.alloc ?_ (by first | (simp; done) | (simp; omega) | omega) _ | refine Below.setCell ?_ (by first | (simp; done) | (simp; omega) | omega) _ | refine bstep (by assumption) (by first | (simp; done) | (simp; omega) | omega) ?_)))) ?_; rintro e w2 ⟨rfl, hb2⟩; have hz2 := hb2.size; (try simp at hz2); have n2 : w2.cell? ⟨wr.heap.size, 0, none⟩ = some (.string x.s) := cell_later hb2 (by go_simp)) | fail)
        go_region
        go_wp2
        go_roundw
        case rel =>
          refine ⟨1, 1, hlt, rfl, by simp, by repeat (first | exact Below.refl _ _ | refine Below.drew ?_ | refine Below.alloc ?_ (by first | (simp; done) | (simp; omega) | omega) _ | refine Below.setCell ?_ (by first | (simp; done) | (simp; omega) | omega) _ | refine bstep (by assumption) (by first | (simp; done) | (simp; omega) | omega) ?_), ?_⟩
          rw [HE.out, HS.out, hnm, hpl, prevR_zero]
          simp [okPrevR]
        case measure => simp [intOf]; omega
      · obtain ⟨j, rfl⟩ : ∃ j, k = j + 1 := ⟨k - 1, by omega⟩
        obtain rfl : q = (j : Int) + 1 := by omega
        obtain ⟨y, t, hy, d0, d1, d2', hT, _⟩ := hL.at hblt hb (show j < rs.length by omega)
        have HP : Hid (prevR rs (j + 1) = some y) := prevR_succ hy
        clear ha hw hL hx hy hq d1 d2' hT
        go_wp2_with (first | (go_at_call 21; refine (implName_any x.s _ hxs).mono ?_; rintro e w1 ⟨rfl, rfl⟩) | (go_at_call 34; refine Calls.mono (implPlain_any x.W _ x.cs _ hxw (hR.below (by repeat (first | exact Below.refl _ _ | refine Below.drew ?_ | refine Below.alloc ?_ (by first | (simp; done) | (simp; omega) | omega) _ | refine Below.setCell ?_ (by first | (simp; done) | (simp; omega) | omega) _ | refine bstep (by assumption) (by first | (simp; done) | (simp; omega) | omega) ?_)))) ?_; rintro e w2 ⟨rfl, hb2⟩; have hz2 := hb2.size; (try simp at hz2); have n2 : w2.cell? ⟨wr.heap.size, 0, none⟩ = some (.string x.s) := cell_later hb2 (by go_simp); have d2 : w2.cell? ⟨b, o + j * 3, none⟩ = some (.string y.s) := cell_later hb2 (by go_simp)) | fail)
        have hw1 : IntKind.i64.wrap (j : Int) = j := by rw [IntKind.wrap_i64]; omega
        have hw2 : IntKind.i64.wrap ((j : Int) + 1 - 1) = j := by rw [IntKind.wrap_i64]; omega
        have hi0 : (0 : Int) ≤ j := by omega
        have hi1 : (j : Int) < rs.length := by omega
        have hi2 : (0 : Int) < (j : Int) + 1 := by omega
        have HQ : Hid (okPrevR (prevR rs (j + 1)) x = Op.bytesLess y.s.toList x.s.toList) := by rw [HP.out]; rfl
        go_region_held3 (fun w' => w'.cell? ⟨wr.heap.size, 0, none⟩ = some (.string x.s) ∧ w'.cell? ⟨b, o + j * 3, none⟩ = some (.string y.s)) (refine ⟨?_, ?_⟩ <;> first | (go_simp; done) | (exact cell_later (by assumption) (by go_simp))) (fail)
        go_wp2
        · have hcf : Op.bytesLess y.s.toList x.s.toList = false := by
            have h9 : (!Op.bytesLess y.s.toList x.s.toList) = true := by assumption
            simpa using h9
          go_returns
          refine ⟨ret_bool ?_, by repeat (first | exact Below.refl _ _ | refine Below.drew ?_ | refine Below.alloc ?_ (by first | (simp; done) | (simp; omega) | omega) _ | refine Below.setCell ?_ (by first | (simp; done) | (simp; omega) | omega) _ | refine bstep (by assumption) (by first | (simp; done) | (simp; omega) | omega) ?_)⟩
          rw [HB.out, HE.out, HS.out, HQ.out, hcf]
          simp
        · have hcmp : Op.bytesLess y.s.toList x.s.toList = true := by
            have h9 : (!Op.bytesLess y.s.toList x.s.toList) = false := by assumption
            simpa using h9
          refine ⟨⟨j + 1 + 1, (j : Int) + 1 + 1, hlt, by omega, rfl, by repeat (first | exact Below.refl _ _ | refine Below.drew ?_ | refine Below.alloc ?_ (by first | (simp; done) | (simp; omega) | omega) _ | refine Below.setCell ?_ (by first | (simp; done) | (simp; omega) | omega) _ | refine bstep (by assumption) (by first | (simp; done) | (simp; omega) | omega) ?_), ?_⟩, by simp [intOf]; omega⟩
          rw [HE.out, HS.out, HQ.out, hnm, hpl, hcmp]
          simp
    · clear ha hw
      go_wp2
      go_returns
      refine ⟨ret_bool ?_, hb⟩
      rw [HB.out, HE.out, List.drop_eq_nil_of_le (by omega)]
      rfl
end Go.Proofs.YtaeibfipcenhaaaGreatDoor
