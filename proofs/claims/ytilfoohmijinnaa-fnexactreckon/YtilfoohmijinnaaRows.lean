/-
  No cell of these rows narrows 'for every input' (looked for: loops, veiled, ifaces, maps, wideKeys, modest, calm, conditions, laid).
  DERIVED. THE GIVEN ROWS OF THIS SEAT. 10 by the template 'for every input the law returns true; each argument reads behind the call as it read before'; 0 by the template 'total and deterministic' (their statements: YtilfoohmijinnaaTotals.lean).
  GIVEN WITH THE SEED: the statements are not yours to turn. If you find one false, say at which input.
  Laid BY PROGRAM, IN A SANDBOX (cutbox-rows.mjs): the forced cells as the released guide's own fill.sh prints them over the translation fe108c64d0c66315… (all of the seat's roots in one cut). By AI agents, Wed Nov 11 2026. No macro, syntax, notation, axiom, sorry.
-/
import Derived.Test.YtilfoohmijinnaaChecked
import GoSem.Claim
import GoSem.ClaimJoined
import GoSem.ClaimMapViews
import Derived.JoinedTies
import Derived.KernelRfl
namespace Go.Proofs.Ytilfoohmijinnaa
/- THE CELL 'sum', in the pinned program and in every row, IS THE sha256 OF THE DUMP (.gsa) THAT YtilfoohmijinnaaProg.lean LOADS. Nothing in Lean hashes anything: it is a label: what it is worth is what the hold of that sum in a sandbox is worth. -/
noncomputable def Try.pinned : Pinned := { name := "ytilfoohmijinnaa", sum := "fe108c64d0c66315c8c08f84aabfca4006ed5010eb73a8c4ec7bde0845aeeab4", checked := Try.checked }
namespace Rows
def none {H : Type} : Left H := { results := [], args := [] }

/-- 'laws.FnReckon': WHATEVER THE INPUT: true; the input reads as it did. -/
def fnReckonSpec : ChangeSpec := { name := "fnReckon", fn := fun _ => fun
  | [d] => { results := [.lit (.bool true)], args := [d] }
  | _ => none }
def fnReckonRow : OpenClaim := { program := "ytilfoohmijinnaa", sum := "fe108c64d0c66315c8c08f84aabfca4006ed5010eb73a8c4ec7bde0845aeeab4", func := "loop.example/g00312/laws.FnReckon", spec := "fnReckon", inPlace := ["internal/bytealg.IndexByteString", "internal/bytealg.IndexString"], unfollowed := true, recurses := true, named := ["internal/bytealg.MaxLen"], apart := false }
def FnReckonSaid : Prop := fnReckonRow.holds Try.pinned (OpenSpec.ofChange fnReckonSpec)

/-- ITS FALSE NEIGHBOUR: 'it returns false'. Refute it at one input. -/
def fnReckonWrong : ChangeSpec := { name := "fnReckon", fn := fun _ => fun
  | [d] => { results := [.lit (.bool false)], args := [d] }
  | _ => none }
def FnReckonWrongFalsely : Prop := fnReckonRow.holds Try.pinned (OpenSpec.ofChange fnReckonWrong)

/-- 'laws.FnExactValueOk': WHATEVER THE INPUT: true; the input reads as it did. -/
def fnExactValueOkSpec : ChangeSpec := { name := "fnExactValueOk", fn := fun _ => fun
  | [d] => { results := [.lit (.bool true)], args := [d] }
  | _ => none }
def fnExactValueOkRow : OpenClaim := { program := "ytilfoohmijinnaa", sum := "fe108c64d0c66315c8c08f84aabfca4006ed5010eb73a8c4ec7bde0845aeeab4", func := "loop.example/g00312/laws.FnExactValueOk", spec := "fnExactValueOk", unfollowed := true, recurses := true, apart := false }
def FnExactValueOkSaid : Prop := fnExactValueOkRow.holds Try.pinned (OpenSpec.ofChange fnExactValueOkSpec)

/-- ITS FALSE NEIGHBOUR: 'it returns false'. Refute it at one input. -/
def fnExactValueOkWrong : ChangeSpec := { name := "fnExactValueOk", fn := fun _ => fun
  | [d] => { results := [.lit (.bool false)], args := [d] }
  | _ => none }
def FnExactValueOkWrongFalsely : Prop := fnExactValueOkRow.holds Try.pinned (OpenSpec.ofChange fnExactValueOkWrong)

/-- 'laws.FnExactCompareValue': WHATEVER THE INPUT: true; the input reads as it did. -/
def fnExactCompareValueSpec : ChangeSpec := { name := "fnExactCompareValue", fn := fun _ => fun
  | [d1, d2] => { results := [.lit (.bool true)], args := [d1, d2] }
  | _ => none }
def fnExactCompareValueRow : OpenClaim := { program := "ytilfoohmijinnaa", sum := "fe108c64d0c66315c8c08f84aabfca4006ed5010eb73a8c4ec7bde0845aeeab4", func := "loop.example/g00312/laws.FnExactCompareValue", spec := "fnExactCompareValue", apart := false }
def FnExactCompareValueSaid : Prop := fnExactCompareValueRow.holds Try.pinned (OpenSpec.ofChange fnExactCompareValueSpec)

/-- ITS FALSE NEIGHBOUR: 'it returns false'. Refute it at one input. -/
def fnExactCompareValueWrong : ChangeSpec := { name := "fnExactCompareValue", fn := fun _ => fun
  | [d1, d2] => { results := [.lit (.bool false)], args := [d1, d2] }
  | _ => none }
def FnExactCompareValueWrongFalsely : Prop := fnExactCompareValueRow.holds Try.pinned (OpenSpec.ofChange fnExactCompareValueWrong)

/-- 'laws.FnExactReckon': WHATEVER THE INPUT: true; the input reads as it did. -/
def fnExactReckonSpec : ChangeSpec := { name := "fnExactReckon", fn := fun _ => fun
  | [d1, d2, d3] => { results := [.lit (.bool true)], args := [d1, d2, d3] }
  | _ => none }
def fnExactReckonRow : OpenClaim := { program := "ytilfoohmijinnaa", sum := "fe108c64d0c66315c8c08f84aabfca4006ed5010eb73a8c4ec7bde0845aeeab4", func := "loop.example/g00312/laws.FnExactReckon", spec := "fnExactReckon", inPlace := ["internal/bytealg.IndexByteString", "internal/bytealg.IndexString"], named := ["internal/bytealg.MaxLen"], apart := false }
def FnExactReckonSaid : Prop := fnExactReckonRow.holds Try.pinned (OpenSpec.ofChange fnExactReckonSpec)

/-- ITS FALSE NEIGHBOUR: 'it returns false'. Refute it at one input. -/
def fnExactReckonWrong : ChangeSpec := { name := "fnExactReckon", fn := fun _ => fun
  | [d1, d2, d3] => { results := [.lit (.bool false)], args := [d1, d2, d3] }
  | _ => none }
def FnExactReckonWrongFalsely : Prop := fnExactReckonRow.holds Try.pinned (OpenSpec.ofChange fnExactReckonWrong)

/-- 'laws.FnExactNot': WHATEVER THE INPUT: true; the input reads as it did. -/
def fnExactNotSpec : ChangeSpec := { name := "fnExactNot", fn := fun _ => fun
  | [d] => { results := [.lit (.bool true)], args := [d] }
  | _ => none }
def fnExactNotRow : OpenClaim := { program := "ytilfoohmijinnaa", sum := "fe108c64d0c66315c8c08f84aabfca4006ed5010eb73a8c4ec7bde0845aeeab4", func := "loop.example/g00312/laws.FnExactNot", spec := "fnExactNot", apart := false }
def FnExactNotSaid : Prop := fnExactNotRow.holds Try.pinned (OpenSpec.ofChange fnExactNotSpec)

/-- ITS FALSE NEIGHBOUR: 'it returns false'. Refute it at one input. -/
def fnExactNotWrong : ChangeSpec := { name := "fnExactNot", fn := fun _ => fun
  | [d] => { results := [.lit (.bool false)], args := [d] }
  | _ => none }
def FnExactNotWrongFalsely : Prop := fnExactNotRow.holds Try.pinned (OpenSpec.ofChange fnExactNotWrong)

/-- 'laws.FnExactIsNull': WHATEVER THE INPUT: true; the input reads as it did. -/
def fnExactIsNullSpec : ChangeSpec := { name := "fnExactIsNull", fn := fun _ => fun
  | [d] => { results := [.lit (.bool true)], args := [d] }
  | _ => none }
def fnExactIsNullRow : OpenClaim := { program := "ytilfoohmijinnaa", sum := "fe108c64d0c66315c8c08f84aabfca4006ed5010eb73a8c4ec7bde0845aeeab4", func := "loop.example/g00312/laws.FnExactIsNull", spec := "fnExactIsNull", apart := false }
def FnExactIsNullSaid : Prop := fnExactIsNullRow.holds Try.pinned (OpenSpec.ofChange fnExactIsNullSpec)

/-- ITS FALSE NEIGHBOUR: 'it returns false'. Refute it at one input. -/
def fnExactIsNullWrong : ChangeSpec := { name := "fnExactIsNull", fn := fun _ => fun
  | [d] => { results := [.lit (.bool false)], args := [d] }
  | _ => none }
def FnExactIsNullWrongFalsely : Prop := fnExactIsNullRow.holds Try.pinned (OpenSpec.ofChange fnExactIsNullWrong)

/-- 'laws.FnExactIsTrue': WHATEVER THE INPUT: true; the input reads as it did. -/
def fnExactIsTrueSpec : ChangeSpec := { name := "fnExactIsTrue", fn := fun _ => fun
  | [d] => { results := [.lit (.bool true)], args := [d] }
  | _ => none }
def fnExactIsTrueRow : OpenClaim := { program := "ytilfoohmijinnaa", sum := "fe108c64d0c66315c8c08f84aabfca4006ed5010eb73a8c4ec7bde0845aeeab4", func := "loop.example/g00312/laws.FnExactIsTrue", spec := "fnExactIsTrue", apart := false }
def FnExactIsTrueSaid : Prop := fnExactIsTrueRow.holds Try.pinned (OpenSpec.ofChange fnExactIsTrueSpec)

/-- ITS FALSE NEIGHBOUR: 'it returns false'. Refute it at one input. -/
def fnExactIsTrueWrong : ChangeSpec := { name := "fnExactIsTrue", fn := fun _ => fun
  | [d] => { results := [.lit (.bool false)], args := [d] }
  | _ => none }
def FnExactIsTrueWrongFalsely : Prop := fnExactIsTrueRow.holds Try.pinned (OpenSpec.ofChange fnExactIsTrueWrong)

/-- 'laws.FnExactPutValue': WHATEVER THE INPUT: true; the input reads as it did. -/
def fnExactPutValueSpec : ChangeSpec := { name := "fnExactPutValue", fn := fun _ => fun
  | [d] => { results := [.lit (.bool true)], args := [d] }
  | _ => none }
def fnExactPutValueRow : OpenClaim := { program := "ytilfoohmijinnaa", sum := "fe108c64d0c66315c8c08f84aabfca4006ed5010eb73a8c4ec7bde0845aeeab4", func := "loop.example/g00312/laws.FnExactPutValue", spec := "fnExactPutValue", unfollowed := true, recurses := true, apart := false }
def FnExactPutValueSaid : Prop := fnExactPutValueRow.holds Try.pinned (OpenSpec.ofChange fnExactPutValueSpec)

/-- ITS FALSE NEIGHBOUR: 'it returns false'. Refute it at one input. -/
def fnExactPutValueWrong : ChangeSpec := { name := "fnExactPutValue", fn := fun _ => fun
  | [d] => { results := [.lit (.bool false)], args := [d] }
  | _ => none }
def FnExactPutValueWrongFalsely : Prop := fnExactPutValueRow.holds Try.pinned (OpenSpec.ofChange fnExactPutValueWrong)

/-- 'laws.FnExactGetValue': WHATEVER THE INPUT: true; the input reads as it did. -/
def fnExactGetValueSpec : ChangeSpec := { name := "fnExactGetValue", fn := fun _ => fun
  | [d1, d2] => { results := [.lit (.bool true)], args := [d1, d2] }
  | _ => none }
def fnExactGetValueRow : OpenClaim := { program := "ytilfoohmijinnaa", sum := "fe108c64d0c66315c8c08f84aabfca4006ed5010eb73a8c4ec7bde0845aeeab4", func := "loop.example/g00312/laws.FnExactGetValue", spec := "fnExactGetValue", unfollowed := true, recurses := true, apart := false }
def FnExactGetValueSaid : Prop := fnExactGetValueRow.holds Try.pinned (OpenSpec.ofChange fnExactGetValueSpec)

/-- ITS FALSE NEIGHBOUR: 'it returns false'. Refute it at one input. -/
def fnExactGetValueWrong : ChangeSpec := { name := "fnExactGetValue", fn := fun _ => fun
  | [d1, d2] => { results := [.lit (.bool false)], args := [d1, d2] }
  | _ => none }
def FnExactGetValueWrongFalsely : Prop := fnExactGetValueRow.holds Try.pinned (OpenSpec.ofChange fnExactGetValueWrong)

/-- 'laws.FnExactNameOk': WHATEVER THE INPUT: true; the input reads as it did. -/
def fnExactNameOkSpec : ChangeSpec := { name := "fnExactNameOk", fn := fun _ => fun
  | [d] => { results := [.lit (.bool true)], args := [d] }
  | _ => none }
def fnExactNameOkRow : OpenClaim := { program := "ytilfoohmijinnaa", sum := "fe108c64d0c66315c8c08f84aabfca4006ed5010eb73a8c4ec7bde0845aeeab4", func := "loop.example/g00312/laws.FnExactNameOk", spec := "fnExactNameOk", apart := false }
def FnExactNameOkSaid : Prop := fnExactNameOkRow.holds Try.pinned (OpenSpec.ofChange fnExactNameOkSpec)

/-- ITS FALSE NEIGHBOUR: 'it returns false'. Refute it at one input. -/
def fnExactNameOkWrong : ChangeSpec := { name := "fnExactNameOk", fn := fun _ => fun
  | [d] => { results := [.lit (.bool false)], args := [d] }
  | _ => none }
def FnExactNameOkWrongFalsely : Prop := fnExactNameOkRow.holds Try.pinned (OpenSpec.ofChange fnExactNameOkWrong)

/- THE SECOND FORM. 'bulk': how many values and letters a reading holds, each counted each time it is reached (what is shared counts as often as it is met; a slice's spare places count too). A statement '..UptoSaid' is the law's where the arguments, and the package variables that the reading takes, are together of bulk at most 1048576: NARROWER than '..Said'. Prove '..Said' where nothing that the law and all that it calls make is longer than what came in: it says more and counts as full. Else prove '..UptoSaid'. A law counts once. -/
mutual
def uptoBulk {H : Type} : DataW H → Nat
  | .lit (.string bytes) => bytes.length + 1
  | .lit _ => 1
  | .nil => 1
  | .ptr d => uptoBulk d + 1
  | .slice elems spare => uptoBulkAll elems + uptoBulkAll spare + 1
  | .agg parts => uptoBulkAll parts + 1
  | .iface _ d => uptoBulk d + 1
  | .map entries => uptoBulkEntries entries + 1
  | .held _ => 1
def uptoBulkAll {H : Type} : List (DataW H) → Nat
  | [] => 0
  | d :: r => uptoBulk d + uptoBulkAll r
def uptoBulkEntries {H : Type} : List (Lit × DataW H) → Nat
  | [] => 0
  | x :: r => uptoBulkEntry x + uptoBulkEntries r
def uptoBulkEntry {H : Type} : Lit × DataW H → Nat
  | (.string bytes, d) => bytes.length + uptoBulk d + 1
  | (_, d) => uptoBulk d + 1
 end
def uptoSmall : (H : Type) → List (DataW H) → Bool := fun _ ds => decide (uptoBulkAll ds ≤ 1048576)
def OpenSpec.upto (s : _root_.Go.ChangeSpec) : _root_.Go.OpenSpec := { _root_.Go.OpenSpec.ofChange s with cond := some uptoSmall }

/-- 'laws.FnReckon', WHERE WHAT IT READS IS OF BULK AT MOST 1048576: true; the input reads as it did. -/
def fnReckonUptoRow : OpenClaim := { program := "ytilfoohmijinnaa", sum := "fe108c64d0c66315c8c08f84aabfca4006ed5010eb73a8c4ec7bde0845aeeab4", func := "loop.example/g00312/laws.FnReckon", spec := "fnReckon", inPlace := ["internal/bytealg.IndexByteString", "internal/bytealg.IndexString"], unfollowed := true, recurses := true, named := ["internal/bytealg.MaxLen"], apart := false, narrowed := true }
def FnReckonUptoSaid : Prop := fnReckonUptoRow.holds Try.pinned (OpenSpec.upto fnReckonSpec)

/-- 'laws.FnExactValueOk', WHERE WHAT IT READS IS OF BULK AT MOST 1048576: true; the input reads as it did. -/
def fnExactValueOkUptoRow : OpenClaim := { program := "ytilfoohmijinnaa", sum := "fe108c64d0c66315c8c08f84aabfca4006ed5010eb73a8c4ec7bde0845aeeab4", func := "loop.example/g00312/laws.FnExactValueOk", spec := "fnExactValueOk", unfollowed := true, recurses := true, apart := false, narrowed := true }
def FnExactValueOkUptoSaid : Prop := fnExactValueOkUptoRow.holds Try.pinned (OpenSpec.upto fnExactValueOkSpec)

/-- 'laws.FnExactCompareValue', WHERE WHAT IT READS IS OF BULK AT MOST 1048576: true; the input reads as it did. -/
def fnExactCompareValueUptoRow : OpenClaim := { program := "ytilfoohmijinnaa", sum := "fe108c64d0c66315c8c08f84aabfca4006ed5010eb73a8c4ec7bde0845aeeab4", func := "loop.example/g00312/laws.FnExactCompareValue", spec := "fnExactCompareValue", apart := false, narrowed := true }
def FnExactCompareValueUptoSaid : Prop := fnExactCompareValueUptoRow.holds Try.pinned (OpenSpec.upto fnExactCompareValueSpec)

/-- 'laws.FnExactReckon', WHERE WHAT IT READS IS OF BULK AT MOST 1048576: true; the input reads as it did. -/
def fnExactReckonUptoRow : OpenClaim := { program := "ytilfoohmijinnaa", sum := "fe108c64d0c66315c8c08f84aabfca4006ed5010eb73a8c4ec7bde0845aeeab4", func := "loop.example/g00312/laws.FnExactReckon", spec := "fnExactReckon", inPlace := ["internal/bytealg.IndexByteString", "internal/bytealg.IndexString"], named := ["internal/bytealg.MaxLen"], apart := false, narrowed := true }
def FnExactReckonUptoSaid : Prop := fnExactReckonUptoRow.holds Try.pinned (OpenSpec.upto fnExactReckonSpec)

/-- 'laws.FnExactNot', WHERE WHAT IT READS IS OF BULK AT MOST 1048576: true; the input reads as it did. -/
def fnExactNotUptoRow : OpenClaim := { program := "ytilfoohmijinnaa", sum := "fe108c64d0c66315c8c08f84aabfca4006ed5010eb73a8c4ec7bde0845aeeab4", func := "loop.example/g00312/laws.FnExactNot", spec := "fnExactNot", apart := false, narrowed := true }
def FnExactNotUptoSaid : Prop := fnExactNotUptoRow.holds Try.pinned (OpenSpec.upto fnExactNotSpec)

/-- 'laws.FnExactIsNull', WHERE WHAT IT READS IS OF BULK AT MOST 1048576: true; the input reads as it did. -/
def fnExactIsNullUptoRow : OpenClaim := { program := "ytilfoohmijinnaa", sum := "fe108c64d0c66315c8c08f84aabfca4006ed5010eb73a8c4ec7bde0845aeeab4", func := "loop.example/g00312/laws.FnExactIsNull", spec := "fnExactIsNull", apart := false, narrowed := true }
def FnExactIsNullUptoSaid : Prop := fnExactIsNullUptoRow.holds Try.pinned (OpenSpec.upto fnExactIsNullSpec)

/-- 'laws.FnExactIsTrue', WHERE WHAT IT READS IS OF BULK AT MOST 1048576: true; the input reads as it did. -/
def fnExactIsTrueUptoRow : OpenClaim := { program := "ytilfoohmijinnaa", sum := "fe108c64d0c66315c8c08f84aabfca4006ed5010eb73a8c4ec7bde0845aeeab4", func := "loop.example/g00312/laws.FnExactIsTrue", spec := "fnExactIsTrue", apart := false, narrowed := true }
def FnExactIsTrueUptoSaid : Prop := fnExactIsTrueUptoRow.holds Try.pinned (OpenSpec.upto fnExactIsTrueSpec)

/-- 'laws.FnExactPutValue', WHERE WHAT IT READS IS OF BULK AT MOST 1048576: true; the input reads as it did. -/
def fnExactPutValueUptoRow : OpenClaim := { program := "ytilfoohmijinnaa", sum := "fe108c64d0c66315c8c08f84aabfca4006ed5010eb73a8c4ec7bde0845aeeab4", func := "loop.example/g00312/laws.FnExactPutValue", spec := "fnExactPutValue", unfollowed := true, recurses := true, apart := false, narrowed := true }
def FnExactPutValueUptoSaid : Prop := fnExactPutValueUptoRow.holds Try.pinned (OpenSpec.upto fnExactPutValueSpec)

/-- 'laws.FnExactGetValue', WHERE WHAT IT READS IS OF BULK AT MOST 1048576: true; the input reads as it did. -/
def fnExactGetValueUptoRow : OpenClaim := { program := "ytilfoohmijinnaa", sum := "fe108c64d0c66315c8c08f84aabfca4006ed5010eb73a8c4ec7bde0845aeeab4", func := "loop.example/g00312/laws.FnExactGetValue", spec := "fnExactGetValue", unfollowed := true, recurses := true, apart := false, narrowed := true }
def FnExactGetValueUptoSaid : Prop := fnExactGetValueUptoRow.holds Try.pinned (OpenSpec.upto fnExactGetValueSpec)

/-- 'laws.FnExactNameOk', WHERE WHAT IT READS IS OF BULK AT MOST 1048576: true; the input reads as it did. -/
def fnExactNameOkUptoRow : OpenClaim := { program := "ytilfoohmijinnaa", sum := "fe108c64d0c66315c8c08f84aabfca4006ed5010eb73a8c4ec7bde0845aeeab4", func := "loop.example/g00312/laws.FnExactNameOk", spec := "fnExactNameOk", apart := false, narrowed := true }
def FnExactNameOkUptoSaid : Prop := fnExactNameOkUptoRow.holds Try.pinned (OpenSpec.upto fnExactNameOkSpec)

end Rows
end Go.Proofs.Ytilfoohmijinnaa
