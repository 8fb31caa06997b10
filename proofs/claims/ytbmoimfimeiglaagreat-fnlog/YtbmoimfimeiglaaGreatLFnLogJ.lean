/- For every slice of bytes, whatever memory it lies in, the statement's function on steps and logs returns true (a step comes back from its bytes; of a log that is cut off or spoilt at its end the whole ones ahead are left), and the argument reads afterwards as it read before; no condition. -/
import Derived.Test.YtbmoimfimeiglaaGreatGLFnLog5
import Derived.Test.YtbmoimfimeiglaaGreatWFnLog
import Derived.Test.YtbmoimfimeiglaaGreatRows
import Derived.WalkKit
import Derived.WalkSpells
import Derived.WalkLawsBesides
import Derived.ProofKit
import Derived.Handy
import Derived.Below
import Derived.OpenShut
import Derived.ShutString
import Derived.ChangeOld
import Derived.Lib.SmallJoins
namespace Go.Proofs.YtbmoimfimeiglaaGreat
open Go.RowKit Go.Deep
set_option linter.unusedVariables false
section
variable {H : Type} {enc : TypeId × Value → H} {P : Program} {w : World} {spare : Nat → Bool} {held : Bool}
theorem wf_u8 (n : Int) (h : (Lit.int .u8 n).wf = true) : 0 ≤ n ∧ n ≤ 255 := by
  simp [Lit.wf, IntKind.min, IntKind.max, IntKind.signed, IntKind.bits] at h
  omega
theorem open_bytes {t e : TypeId} {fuel : Nat} {v : Value} {x : DataW H × List MemPlace} (ht : P.underlying t = some (.slice e)) (ce : P.cellsOf e = 1) (u0 : P.underlying e = some (.int .u8))
    (h : DataW.trod enc P w 0 spare held fuel t [v] = some x) : ∃ (a : Option Addr) (l c : Nat), v = .slice a l c ∧ l ≤ c ∧ c ≤ maxLen ∧ ∀ j, j < l → ∃ b o, a = some ⟨b, o, none⟩ ∧ b < w.heap.size ∧ ∃ x : Int, 0 ≤ x ∧ x ≤ 255 ∧ w.cell? ⟨b, o + j, none⟩ = some (.int .u8 x) := by
  rcases open_slice ht h with ⟨h0, _⟩ | ⟨a, len, cap, m, n, D, Pl, hcs, hb, hl, hm, hmm, rfl, hx⟩
  · simp at h0; subst h0
    exact ⟨none, 0, 0, rfl, Nat.le_refl _, by unfold maxLen; omega, fun j hj => absurd hj (by omega)⟩
  simp at hcs; subst hcs
  have hlm : len ≤ m := by rw [hmm]; split <;> omega
  have each : ∀ j, j < len → ∃ z : Int, w.cell? (a.add j) = some (.int .u8 z) ∧ (Lit.int .u8 z).wf = true := by
    intro j hj
    obtain ⟨cs', h1, h2⟩ := hx j (by omega)
    rw [ce] at h1
    obtain ⟨_, hlen, hcell⟩ := World.cells?_some h1
    match cs', hlen with
    | [v0], _ =>
      have e0 := hcell 0 (by omega)
      obtain ⟨z0, q0, _, w0⟩ := DataW.trod_int u0 h2
      simp at q0
      subst q0
      exact ⟨z0, by simpa [Addr.add] using e0, w0⟩
  refine ⟨some a, len, cap, rfl, hl, hm, fun j hj => ?_⟩
  have hs : a.spot = none := by
    obtain ⟨z, hz, _⟩ := each 0 (by omega)
    have := World.cell?_spot hz
    simpa [Addr.add] using this
  obtain ⟨z0, e1, w0⟩ := each j hj
  obtain ⟨b, o, sp⟩ := a
  simp at hs; subst hs
  rw [Go.WideShapes.add_plain] at e1
  have hlt := World.block_lt_of_cell? _ _ e1
  obtain ⟨w1, w2⟩ := wf_u8 z0 w0
  exact ⟨b, o, rfl, by simpa using hlt, z0, w1, w2, e1⟩
end
end Go.Proofs.YtbmoimfimeiglaaGreat
namespace Go.Proofs.YtbmoimfimeiglaaGreat.fnLog
open Go.RowKit Go.Deep
set_option linter.unusedVariables false
set_option maxHeartbeats 2000000 in
theorem big_wide (a : Option Addr) (l c : Nat) (w : World) (hl : l ≤ 9223372036854775807) : Calls Tryz.prog 4 #[.slice a l c] w fun e w' => e = .returned (.bool (decide ((1048576 : Int) < l))) ∧ w' = w := by
  go_enter Tryz.func4, Tryz.ntmps4
  go_wp2
  go_returns
  exact ⟨rfl, rfl⟩
set_option maxHeartbeats 2000000 in
set_option maxRecDepth 100000 in
theorem walk (v : Value) (w : World) (h : ∃ (a : Option Addr) (l c : Nat), v = .slice a l c ∧ l ≤ c ∧ c ≤ maxLen ∧ ∀ j, j < l → ∃ b o, a = some ⟨b, o, none⟩ ∧ b < w.heap.size ∧ ∃ x : Int, 0 ≤ x ∧ x ≤ 255 ∧ w.cell? ⟨b, o + j, none⟩ = some (.int .u8 x)) :
    Calls Tryz.prog 3 #[v] w fun x w' => x = .returned (.bool true) ∧ Below w.heap.size w w' := by
  obtain ⟨a, l, c, rfl, hlc, hc, hb⟩ := h
  by_cases hl : l ≤ 1048576
  · exact walk_small a l c w ⟨a, c, rfl, hlc, hl, hb⟩
  have hd : decide ((1048576 : Int) < l) = true := by simp; omega
  unfold maxLen at hc
  clear hb
  go_enter Tryz.func3, Tryz.ntmps3
  go_wp2_with fail
  refine (big_wide a l c _ (by omega)).mono ?_
  rintro x w ⟨rfl, rfl⟩
  rw [hd]
  clear hd
  go_wp2
  go_returns
  exact ⟨rfl, Below.refl _ _⟩
end Go.Proofs.YtbmoimfimeiglaaGreat.fnLog
namespace Go.Proofs.YtbmoimfimeiglaaGreat.fnLog
open Go.ChangeShapes Go.WideShapes Go.ChangeAt Go.RowKit Go.Joins
open Go.ChangeMaps (open_string shut_string)
set_option linter.unusedVariables false
theorem own : ownKnob Tryz.prog.godebug = none := by kernel_rfl
theorem laidOut : laidOutB Tryz.prog = true := by kernel_rfl
set_option maxHeartbeats 4000000 in
set_option maxRecDepth 100000 in
theorem lifted (os : Os) (started : os.Started) (H : Type) (enc : TypeId × Value → H) :
    ReturnsInHanded {} Tryz.checked os 3 .any (Rows.fnLogSpec.pre6 enc Tryz.prog Tryz.f3 Rows.fnLogRow.domain false) (Rows.fnLogSpec.post enc Tryz.prog Tryz.f3 false true false false) := by
  refine returnsInHanded_of_change (C := Tryz.checked) own started (by kernel_rfl) Tryz.func3
    (ChangeSpec.witness6 (enc := enc) (C := Tryz.checked) false ⟨#[], #[.slice none 0 0], []⟩ 8 (by kernel_rfl) (by kernel_rfl) (by kernel_rfl) (by kernel_rfl)) ?_
  intro W base args ds gs before hval0 hW hcnd _
  have hval : ∀ (j : Nat) t v, Tryz.f3.params[j]? = some t → args[j]? = some v → Value.okWide Tryz.prog W .any base t v := hval0
  have hW' := hW
  obtain ⟨p, q, hA0, hV, rfl, hfz, hnd⟩ := hW
  have hA : DataW.TrodAll enc Tryz.prog W 0 (fun _ => true) true Tryz.f3.params.toList args.toList ds p := hA0
  rw [Tryz.params3] at hA hval
  obtain ⟨v0, vs0, d0, ds0, p0, q0, hargs, rfl, rfl, h0, r0⟩ := trodAll_cons hA
  obtain ⟨rfl, rfl, rfl⟩ := trodAll_nil r0
  obtain rfl : args = #[v0] := by cases args; simp_all
  obtain ⟨rfl, rfl⟩ := trodVars_none hV
  have k0 := h0
  have lt0 : ∀ x ∈ p0, x.block < W.heap.size := by obtain ⟨m, hm⟩ := k0; exact DataW.trod_lt m _ _ _ hm
  obtain ⟨al0, ll0, cl0, rfl⟩ := okWide_slice Tryz.underlying22 (hval 0 22 v0 rfl rfl)
  obtain ⟨fu0, hfu0⟩ := h0
  have hr0 := open_bytes (w := W) (v := .slice al0 ll0 cl0) Tryz.underlying22 (by kernel_rfl) Tryz.underlying5 (by simpa [Value.cells] using hfu0)
  clear hA0 hval0
  refine (walk (.slice al0 ll0 cl0) W hr0).mono fun e W' ⟨he, bel⟩ => ?_
  subst he
  exact ⟨_, rfl, _, _, _, [], _, [], hW', trodAll_mk1 (shut_bool Tryz.underlying4 _), (trodAll_cons_mk (Below.trod laidOut (by kernel_rfl) (of_decide_eq_true (by kernel_rfl)) k0 bel lt0) trodAll_mk0), rfl, bel.frame _, fun h => by cases h⟩
theorem over : Rows.fnLogRow.holds Tryz.pinned (OpenSpec.ofChange Rows.fnLogSpec) :=
  OpenClaim.holds_of_wide 3 Tryz.f3 rfl rfl rfl rfl rfl rfl rfl ⟨rfl, rfl, rfl, rfl, rfl⟩ rfl rfl rfl rfl rfl (by kernel_rfl) Tryz.func3 (by kernel_rfl)
    (of_decide_eq_true (by kernel_rfl)) (by unfold Func.isWrapper; first | (rw [if_pos (by decide +kernel)]; kernel_rfl) | (rw [if_neg (by decide +kernel)]; exact ⟨rfl, rfl⟩))
    (fun os started H enc _ => lifted os started H enc)
end Go.Proofs.YtbmoimfimeiglaaGreat.fnLog
namespace Go.Proofs.YtbmoimfimeiglaaGreat
theorem fnLog_holds : Rows.FnLogSaid := fnLog.over
end Go.Proofs.YtbmoimfimeiglaaGreat
