/- Own texts, joined: contracts that the law's proof goes by. -/
import Derived.Test.YtaeibfipcenhaaaGreatDoorGLViewsOk1
import Derived.Handy
import Derived.Test.YtaeibfipcenhaaaGreatDoorGLViewsOk25
import Derived.Deep.RegionHeld3
namespace Go.Proofs.YtaeibfipcenhaaaGreatDoor
open Go.RowKit
set_option linter.unusedVariables false
/-- the digits of a number; none of 0. -/
def dg (u : Nat) : List Int := if h : u = 0 then [] else have : u / 10 < u := by omega
  dg (u / 10) ++ [((48 + u % 10 : Nat) : Int)]
/-- the text of a mark. -/
def mt (u : Int) : ByteArray := ⟨#[109]⟩ ++ strOfNums (dg u.toNat)
end Go.Proofs.YtaeibfipcenhaaaGreatDoor
namespace Go.Proofs.YtaeibfipcenhaaaGreatDoor
open Go.RowKit Go.Deep
set_option linter.unusedVariables false
/-- how many expressions there are, kids and all, at most d deep. -/
def nK : Nat → List E7 → Nat
  | 0, _ => 0
  | d + 1, es => (es.map fun e => 1 + nK d e.ks).sum
/-- the mark that expression i begins with. -/
def offE (d k : Nat) (es : List E7) (i : Nat) : Nat := k + 6 * ((es.take i).map fun e => 1 + nK d e.ks).sum
/-- expressions that are marked from k on. -/
def mK : Nat → Nat → List E7 → List E7
  | 0, _, _ => []
  | d + 1, k, es => es.mapIdx fun i e => E7.mk (offE d k es i : Nat) ((offE d k es i : Nat) + 1) ⟨(offE d k es i : Nat) + 1 + 1, (offE d k es i : Nat) + 1 + 1 + 1, mt ((offE d k es i : Nat) + 1 + 1 + 1 + 1)⟩ (mt ((offE d k es i : Nat) + 1 + 1 + 1 + 1 + 1)) (mK d (offE d k es i + 6) e.ks)
/-- one that is marked from t on. -/
def mE (d t : Nat) (e : E7) : E7 := E7.mk t ((t : Int) + 1) ⟨(t : Int) + 1 + 1, (t : Int) + 1 + 1 + 1, mt ((t : Int) + 1 + 1 + 1 + 1)⟩ (mt ((t : Int) + 1 + 1 + 1 + 1 + 1)) (mK d (t + 6) e.ks)
end Go.Proofs.YtaeibfipcenhaaaGreatDoor
