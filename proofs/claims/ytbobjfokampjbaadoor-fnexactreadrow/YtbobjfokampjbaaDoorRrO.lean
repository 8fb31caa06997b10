/- Own text. What ReadRow answers, in plain words. -/
import Derived.Test.YtbobjfokampjbaaDoorRrP
import Derived.Test.YtbobjfokampjbaaDoorBsK
import Derived.Test.YtbobjfokampjbaaDoorVrK
namespace Go.Proofs.YtbobjfokampjbaaDoor
open Go.RowKit
set_option linter.unusedVariables false
/-- a word without quotes. -/
def plainW (l : List UInt8) : Option V3 :=
  if l = [110, 117, 108, 108] then some ⟨0, 0, ⟨#[]⟩⟩ else if l = [116, 114, 117, 101] then some ⟨2, 1, ⟨#[]⟩⟩ else if l = [102, 97, 108, 115, 101] then some ⟨2, 0, ⟨#[]⟩⟩ else if okN l = true then some ⟨1, valN l, ⟨#[]⟩⟩ else none
/-- up to the next comma, and from it on. -/
def upC (l : List UInt8) : List UInt8 := l.takeWhile (· != 44)
def frC (l : List UInt8) : List UInt8 := l.dropWhile (· != 44)
/-- the first value, and what stands behind it. -/
def oneV (l : List UInt8) : Option (V3 × List UInt8) := match l with
  | [] => (plainW []).map (fun v => (v, []))
  | c :: b => if c = 39 then (match qtx b with
      | some p => if p.1.length ≤ 100 then some (⟨3, 0, bs p.1⟩, p.2) else none
      | none => none) else (plainW (upC (c :: b))).map (fun v => (v, frC (c :: b)))
/-- all values. -/
def rowV : Nat → List UInt8 → Option (List V3)
  | 0, _ => none
  | k + 1, l => match oneV l with
    | none => none
    | some (v, []) => some [v]
    | some (v, c :: r) => if c = 44 then (rowV k r).map (fun vs => v :: vs) else none
def rrO (l : List UInt8) : Bool := (rowV (l.length + 1) l).isSome
def rrR (l : List UInt8) : List V3 := (rowV (l.length + 1) l).getD []
theorem up_fr (l : List UInt8) : upC l ++ frC l = l := List.takeWhile_append_dropWhile
theorem fr_len (l : List UInt8) : (frC l).length ≤ l.length := by have := congrArg List.length (up_fr l); rw [List.length_append] at this; omega
theorem plainW_nil : plainW [] = none := by decide +kernel
theorem oneV_len {l r : List UInt8} {v : V3} (h : oneV l = some (v, r)) : r.length ≤ l.length := by
  unfold oneV at h
  split at h
  · rw [plainW_nil] at h; cases h
  · split at h
    · split at h
      · rename_i p hp
        split at h
        · injection h with h; injection h with h1 h2
          have := (qtx_len (t := p.1) (r := p.2) hp).1
          rw [← h2]; simp; omega
        · cases h
      · cases h
    · rename_i c b hc
      cases hx : plainW (upC (c :: b)) with
      | none => rw [hx] at h; cases h
      | some x =>
        rw [hx] at h
        injection h with h; injection h with h1 h2
        rw [← h2]; exact fr_len _
/-- what a loop's round keeps. -/
theorem row_no {l : List UInt8} {k : Nat} (hk : l.length < k) (h : oneV l = none) : rowV k l = none := by
  cases k with
  | zero => omega
  | succ k => rw [rowV, h]
theorem row_end {l : List UInt8} {k : Nat} {v : V3} (hk : l.length < k) (h : oneV l = some (v, [])) : rowV k l = some [v] := by
  cases k with
  | zero => omega
  | succ k => rw [rowV, h]
theorem row_bad {l r : List UInt8} {k : Nat} {v : V3} {c : UInt8} (hk : l.length < k) (h : oneV l = some (v, c :: r)) (hc : c ≠ 44) : rowV k l = none := by
  cases k with
  | zero => omega
  | succ k => rw [rowV, h]; exact if_neg hc
theorem row_go {l r : List UInt8} {k : Nat} {v : V3} (hk : l.length < k + 1) (h : oneV l = some (v, 44 :: r)) : rowV (k + 1) l = (rowV k r).map (fun vs => v :: vs) := by
  rw [rowV, h]; exact if_pos rfl
/-- the loop's relation: what is read so far, what is left. -/
def RowP (l0 l : List UInt8) (vs : List V3) : Prop := ∃ k, l.length < k ∧ rowV (l0.length + 1) l0 = (rowV k l).map (fun us => vs ++ us)
theorem RowP.start (l : List UInt8) : RowP l l [] := ⟨l.length + 1, by omega, by simp⟩
theorem RowP.go {l0 l r : List UInt8} {vs : List V3} {v : V3} (h : RowP l0 l vs) (ho : oneV l = some (v, 44 :: r)) : RowP l0 r (vs ++ [v]) := by
  obtain ⟨k, hk, h⟩ := h
  obtain ⟨k, rfl⟩ : ∃ k', k = k' + 1 := ⟨k - 1, by omega⟩
  have := oneV_len ho
  simp at this
  refine ⟨k, by omega, ?_⟩
  rw [h, row_go hk ho]
  simp [Option.map_map, Function.comp_def]
theorem RowP.no {l0 l : List UInt8} {vs : List V3} (h : RowP l0 l vs) (ho : oneV l = none) : rrO l0 = false ∧ rrR l0 = [] := by
  obtain ⟨k, hk, h⟩ := h
  unfold rrO rrR
  rw [h, row_no hk ho]; exact ⟨rfl, rfl⟩
theorem RowP.bad {l0 l r : List UInt8} {vs : List V3} {v : V3} {c : UInt8} (h : RowP l0 l vs) (ho : oneV l = some (v, c :: r)) (hc : c ≠ 44) : rrO l0 = false ∧ rrR l0 = [] := by
  obtain ⟨k, hk, h⟩ := h
  unfold rrO rrR
  rw [h, row_bad hk ho hc]; exact ⟨rfl, rfl⟩
theorem RowP.fin {l0 l : List UInt8} {vs : List V3} {v : V3} (h : RowP l0 l vs) (ho : oneV l = some (v, [])) : rrO l0 = true ∧ rrR l0 = vs ++ [v] := by
  obtain ⟨k, hk, h⟩ := h
  unfold rrO rrR
  rw [h, row_end hk ho]; exact ⟨rfl, rfl⟩
end Go.Proofs.YtbobjfokampjbaaDoor
