/- Own text. The contracts of the model's l12End and l12Value. -/
import Derived.Test.YtbobjfokampjbaaDoorRrQ
import Derived.Test.YtbobjfokampjbaaDoorRrL
import Derived.Test.YtbobjfokampjbaaDoorRrN
import Derived.Test.YtbobjfokampjbaaDoorRetC
import Derived.Handy
namespace Go.Proofs.YtbobjfokampjbaaDoor
open Go.RowKit
set_option linter.unusedVariables false
theorem fr_step {c : UInt8} {r : List UInt8} (h : c ≠ 44) : frC (c :: r) = frC r := by unfold frC; rw [List.dropWhile_cons]; simp [h]
theorem fr_stop (r : List UInt8) : frC (44 :: r) = 44 :: r := by unfold frC; rw [List.dropWhile_cons]; simp
theorem byte_eq {c : UInt8} {n : Nat} (hn : n < 256) : (((c.toNat : Int) == (n : Int)) = true) ↔ c = UInt8.ofNat n := by
  rw [beq_iff_eq]
  constructor
  · intro h
    apply UInt8.toNat_inj.1
    rw [UInt8.toNat_ofNat']
    omega
  · rintro rfl
    rw [UInt8.toNat_ofNat']
    omega
set_option maxHeartbeats 4000000 in
set_option maxRecDepth 100000 in
theorem l12End_any (s : ByteArray) (i : Nat) (w : World) (hs : s.size ≤ 1048576) (hi : i ≤ s.size) :
    Calls Tryd.prog 9 #[.string s, .int .i64 i] w fun e w' => e = .returned (.int .i64 ((s.size - (restV (s.data.toList.drop i)).length : Nat) : Int)) ∧ Below w.heap.size w w' := by
  obtain ⟨R, HR⟩ : ∃ R : Nat, Hid (s.size - (restV (s.data.toList.drop i)).length = R) := ⟨_, rfl⟩
  rw [HR.out]
  by_cases h39 : ∃ h : i < s.size, s[i] = 39
  · obtain ⟨hlt, h39⟩ := h39
    have hltI : (i : Int) < s.size := by omega
    have hd := drop_at s i hlt
    have hc : ((s[i].toNat : Int) == 39) = true := by rw [h39]; rfl
    have hQ := l08Quoted_any s i (s.data.toList.drop (i + 1)) w rfl hs hi
    cases hq : qtx (s.data.toList.drop (i + 1)) with
    | none =>
      have e1 : qE s.size (s.data.toList.drop (i + 1)) = -1 := by unfold qE; rw [hq]
      have HE : Hid (R = s.size) := by show _ = _; rw [← HR.out, hd, h39]; unfold restV; dsimp only; rw [if_pos rfl, hq]; simp
      rw [e1] at hQ
      generalize qT (s.data.toList.drop (i + 1)) = T at hQ
      clear hq hd e1 h39
      go_enter Tryd.func9, Tryd.ntmps9
      go_wp2_with (first | (go_at_call 15; refine Calls.mono hQ ?_; rintro r w1 ⟨rfl, hb1⟩) | fail)
      go_returns
      exact ⟨by rw [HE.out]; rfl, hb1⟩
    | some p =>
      have hp := (qtx_len (t := p.1) (r := p.2) hq).1
      have e1 : qE s.size (s.data.toList.drop (i + 1)) = ((s.size - p.2.length : Nat) : Int) := by unfold qE; rw [hq]
      have HE : Hid (R = s.size - p.2.length) := by show _ = _; rw [← HR.out, hd, h39]; unfold restV; dsimp only; rw [if_pos rfl, hq]
      rw [e1] at hQ
      generalize qT (s.data.toList.drop (i + 1)) = T at hQ
      generalize s.size - p.2.length = E at *
      have hE0 : ¬ ((E : Int) < 0) := by omega
      clear hq hd e1 h39 hp
      go_enter Tryd.func9, Tryd.ntmps9
      go_wp2_with (first | (go_at_call 15; refine Calls.mono hQ ?_; rintro r w1 ⟨rfl, hb1⟩) | fail)
      go_returns
      exact ⟨by rw [HE.out]; rfl, hb1⟩
  · have HE : Hid (R = s.size - (frC (s.data.toList.drop i)).length) := by
      show _ = _
      rw [← HR.out]
      by_cases hlt : i < s.size
      · rw [drop_at s i hlt]
        have : s[i] ≠ 39 := fun h => h39 ⟨hlt, h⟩
        unfold restV; dsimp only; rw [if_neg this]
      · rw [List.drop_eq_nil_of_le (by simp; omega)]; rfl
    have main : Calls Tryd.prog 9 #[.string s, .int .i64 i] w fun e w' => e = .returned (.int .i64 (R : Int)) ∧ w' = w := by
      have hgo : ∀ (k : Nat), i ≤ k → k ≤ s.size → True := fun _ _ _ => trivial
      have hfirst : decide ((i : Int) < s.size) = true → ((if h : i < s.size then (s[i].toNat : Int) else 0) == 39) = false := by
        intro _
        split
        · rename_i h
          rw [beq_eq_false_iff_ne]; intro e
          exact h39 ⟨h, (byte_eq (c := s[i]) (n := 39) (by decide)).1 (by rw [beq_iff_eq]; exact e)⟩
        · rfl
      clear hgo
      by_cases hlt : i < s.size
      · have hltI : (i : Int) < s.size := by omega
        have hc : ((s[i].toNat : Int) == 39) = false := by
          rw [beq_eq_false_iff_ne]; intro e
          exact h39 ⟨hlt, (byte_eq (c := s[i]) (n := 39) (by decide)).1 (by rw [beq_iff_eq]; exact e)⟩
        clear hfirst h39
        go_enter Tryd.func9, Tryd.ntmps9
        go_wp2_with fail
        go_loop [1] (fun x => ∃ k : Nat, i ≤ k ∧ k ≤ s.size ∧ x = .int .i64 k ∧ Hid (frC (s.data.toList.drop i) = frC (s.data.toList.drop k))) (fun x => s.size - (intOf x).toNat)
        case atStart => exact ⟨i, Nat.le_refl _, hi, rfl, rfl⟩
        case round =>
          obtain ⟨k, hk0, hk, rfl, HK⟩ := hrel
          by_cases hlt2 : k < s.size
          · have hltI2 : (k : Int) < s.size := by omega
            have hd := drop_at s k hlt2
            by_cases h44 : s[k] = 44
            · have hc2 : ((s[k].toNat : Int) != 44) = false := by rw [h44]; rfl
              have HF : Hid (R = k) := by
                show _ = _
                rw [HE.out, HK.out, hd, h44, fr_stop, ← h44, ← hd]; simp; omega
              clear hd h44 HK HE HR
              go_wp2_with fail
              go_returns
              exact ⟨by rw [HF.out]; rfl, rfl⟩
            · have hc2 : ((s[k].toNat : Int) != 44) = true := by
                rw [bne_iff_ne]; intro e
                exact h44 ((byte_eq (c := s[k]) (n := 44) (by decide)).1 (by rw [beq_iff_eq]; exact e))
              have HX : Hid (frC (s.data.toList.drop i) = frC (s.data.toList.drop (k + 1))) := by
                show _ = _
                rw [HK.out, hd, fr_step h44]
              clear hd HK
              go_wp2_with fail
              exact ⟨⟨k + 1, by omega, by omega, by go_num, HX⟩, by simp [intOf]; omega⟩
          · have hltI2 : decide ((k : Int) < s.size) = false := by simp; omega
            have HF : Hid (R = k) := by
              show _ = _
              rw [HE.out, HK.out, List.drop_eq_nil_of_le (by simp; omega)]; simp [frC]; omega
            clear HK HE HR
            go_wp2_with fail
            go_returns
            exact ⟨by rw [HF.out]; rfl, rfl⟩
      · have hlt0 : decide ((i : Int) < s.size) = false := by simp; omega
        have HF : Hid (R = i) := by
          show _ = _
          rw [HE.out, List.drop_eq_nil_of_le (by simp; omega)]; simp [frC]; omega
        clear hfirst h39 HE HR
        go_enter Tryd.func9, Tryd.ntmps9
        go_wp2_with fail
        go_loop [1] (fun x => x = .int .i64 i) (fun _ => 0)
        case atStart => rfl
        case round =>
          obtain rfl := hrel
          go_wp2_with fail
          go_returns
          exact ⟨by rw [HF.out]; rfl, rfl⟩
    exact main.mono fun e w' ⟨h1, h2⟩ => ⟨h1, by rw [h2]; exact Below.refl _ _⟩
end Go.Proofs.YtbobjfokampjbaaDoor
