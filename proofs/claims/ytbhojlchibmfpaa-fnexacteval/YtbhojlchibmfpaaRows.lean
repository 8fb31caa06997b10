/-
  NARROWER THAN 'FOR EVERY INPUT', by the rows' own cells (each row's printed sentence says how): FnExactExpOk: loops · FnExactEval: loops · FnExactColsOf: loops · FnExactShift: loops · FnExactConj: loops · FnExactAndAll: loops · FnExactPut: loops · FnExactSameExp: loops.
  DERIVED. THE GIVEN ROWS OF THIS SEAT. 8 by the template 'for every input the law returns true; each argument reads behind the call as it read before'; 0 by the template 'total and deterministic' (their statements: YtbhojlchibmfpaaTotals.lean).
  GIVEN WITH THE SEED: the statements are not yours to turn. If you find one false, say at which input.
  Laid BY PROGRAM, IN A SANDBOX (cutbox-rows.mjs): the forced cells as the released guide's own fill.sh prints them over the translation b4aeac677c9759c6… (all of the seat's roots in one cut). By AI agents, Wed Nov 11 2026. No macro, syntax, notation, axiom, sorry.
-/
import Derived.Test.YtbhojlchibmfpaaChecked
import GoSem.Claim
import GoSem.ClaimJoined
import GoSem.ClaimMapViews
import Derived.JoinedTies
import Derived.KernelRfl
namespace Go.Proofs.Ytbhojlchibmfpaa
/- THE CELL 'sum', in the pinned program and in every row, IS THE sha256 OF THE DUMP (.gsa) THAT YtbhojlchibmfpaaProg.lean LOADS. Nothing in Lean hashes anything: it is a label: what it is worth is what the hold of that sum in a sandbox is worth. -/
noncomputable def Try.pinned : Pinned := { name := "ytbhojlchibmfpaa", sum := "b4aeac677c9759c66c440a03ecb14d880638be340316a7324f79e118bba8f8da", checked := Try.checked }
namespace Rows
def none {H : Type} : Left H := { results := [], args := [] }

/-- 'laws.FnExactExpOk': WHATEVER THE INPUT: true; the input reads as it did. -/
def fnExactExpOkSpec : ChangeSpec := { name := "fnExactExpOk", fn := fun _ => fun
  | [d] => { results := [.lit (.bool true)], args := [d] }
  | _ => none }
def fnExactExpOkRow : OpenClaim := { program := "ytbhojlchibmfpaa", sum := "b4aeac677c9759c66c440a03ecb14d880638be340316a7324f79e118bba8f8da", func := "loop.example/g00312/laws.FnExactExpOk", spec := "fnExactExpOk", unfollowed := true, recurses := true, loops := true, apart := false }
def FnExactExpOkSaid : Prop := fnExactExpOkRow.holds Try.pinned (OpenSpec.ofChange fnExactExpOkSpec)

/-- ITS FALSE NEIGHBOUR: 'it returns false'. Refute it at one input. -/
def fnExactExpOkWrong : ChangeSpec := { name := "fnExactExpOk", fn := fun _ => fun
  | [d] => { results := [.lit (.bool false)], args := [d] }
  | _ => none }
def FnExactExpOkWrongFalsely : Prop := fnExactExpOkRow.holds Try.pinned (OpenSpec.ofChange fnExactExpOkWrong)

/-- 'laws.FnExactEval': WHATEVER THE INPUT: true; the input reads as it did. -/
def fnExactEvalSpec : ChangeSpec := { name := "fnExactEval", fn := fun _ => fun
  | [d1, d2] => { results := [.lit (.bool true)], args := [d1, d2] }
  | _ => none }
def fnExactEvalRow : OpenClaim := { program := "ytbhojlchibmfpaa", sum := "b4aeac677c9759c66c440a03ecb14d880638be340316a7324f79e118bba8f8da", func := "loop.example/g00312/laws.FnExactEval", spec := "fnExactEval", inPlace := ["internal/bytealg.IndexByteString", "internal/bytealg.IndexString"], unfollowed := true, recurses := true, named := ["internal/bytealg.MaxLen"], loops := true, apart := false }
def FnExactEvalSaid : Prop := fnExactEvalRow.holds Try.pinned (OpenSpec.ofChange fnExactEvalSpec)

/-- ITS FALSE NEIGHBOUR: 'it returns false'. Refute it at one input. -/
def fnExactEvalWrong : ChangeSpec := { name := "fnExactEval", fn := fun _ => fun
  | [d1, d2] => { results := [.lit (.bool false)], args := [d1, d2] }
  | _ => none }
def FnExactEvalWrongFalsely : Prop := fnExactEvalRow.holds Try.pinned (OpenSpec.ofChange fnExactEvalWrong)

/-- 'laws.FnExactColsOf': WHATEVER THE INPUT: true; the input reads as it did. -/
def fnExactColsOfSpec : ChangeSpec := { name := "fnExactColsOf", fn := fun _ => fun
  | [d] => { results := [.lit (.bool true)], args := [d] }
  | _ => none }
def fnExactColsOfRow : OpenClaim := { program := "ytbhojlchibmfpaa", sum := "b4aeac677c9759c66c440a03ecb14d880638be340316a7324f79e118bba8f8da", func := "loop.example/g00312/laws.FnExactColsOf", spec := "fnExactColsOf", recurses := true, loops := true, apart := false }
def FnExactColsOfSaid : Prop := fnExactColsOfRow.holds Try.pinned (OpenSpec.ofChange fnExactColsOfSpec)

/-- ITS FALSE NEIGHBOUR: 'it returns false'. Refute it at one input. -/
def fnExactColsOfWrong : ChangeSpec := { name := "fnExactColsOf", fn := fun _ => fun
  | [d] => { results := [.lit (.bool false)], args := [d] }
  | _ => none }
def FnExactColsOfWrongFalsely : Prop := fnExactColsOfRow.holds Try.pinned (OpenSpec.ofChange fnExactColsOfWrong)

/-- 'laws.FnExactShift': WHATEVER THE INPUT: true; the input reads as it did. -/
def fnExactShiftSpec : ChangeSpec := { name := "fnExactShift", fn := fun _ => fun
  | [d1, d2] => { results := [.lit (.bool true)], args := [d1, d2] }
  | _ => none }
def fnExactShiftRow : OpenClaim := { program := "ytbhojlchibmfpaa", sum := "b4aeac677c9759c66c440a03ecb14d880638be340316a7324f79e118bba8f8da", func := "loop.example/g00312/laws.FnExactShift", spec := "fnExactShift", recurses := true, loops := true, apart := false }
def FnExactShiftSaid : Prop := fnExactShiftRow.holds Try.pinned (OpenSpec.ofChange fnExactShiftSpec)

/-- ITS FALSE NEIGHBOUR: 'it returns false'. Refute it at one input. -/
def fnExactShiftWrong : ChangeSpec := { name := "fnExactShift", fn := fun _ => fun
  | [d1, d2] => { results := [.lit (.bool false)], args := [d1, d2] }
  | _ => none }
def FnExactShiftWrongFalsely : Prop := fnExactShiftRow.holds Try.pinned (OpenSpec.ofChange fnExactShiftWrong)

/-- 'laws.FnExactConj': WHATEVER THE INPUT: true; the input reads as it did. -/
def fnExactConjSpec : ChangeSpec := { name := "fnExactConj", fn := fun _ => fun
  | [d] => { results := [.lit (.bool true)], args := [d] }
  | _ => none }
def fnExactConjRow : OpenClaim := { program := "ytbhojlchibmfpaa", sum := "b4aeac677c9759c66c440a03ecb14d880638be340316a7324f79e118bba8f8da", func := "loop.example/g00312/laws.FnExactConj", spec := "fnExactConj", recurses := true, loops := true, apart := false }
def FnExactConjSaid : Prop := fnExactConjRow.holds Try.pinned (OpenSpec.ofChange fnExactConjSpec)

/-- ITS FALSE NEIGHBOUR: 'it returns false'. Refute it at one input. -/
def fnExactConjWrong : ChangeSpec := { name := "fnExactConj", fn := fun _ => fun
  | [d] => { results := [.lit (.bool false)], args := [d] }
  | _ => none }
def FnExactConjWrongFalsely : Prop := fnExactConjRow.holds Try.pinned (OpenSpec.ofChange fnExactConjWrong)

/-- 'laws.FnExactAndAll': WHATEVER THE INPUT: true; the input reads as it did. -/
def fnExactAndAllSpec : ChangeSpec := { name := "fnExactAndAll", fn := fun _ => fun
  | [d] => { results := [.lit (.bool true)], args := [d] }
  | _ => none }
def fnExactAndAllRow : OpenClaim := { program := "ytbhojlchibmfpaa", sum := "b4aeac677c9759c66c440a03ecb14d880638be340316a7324f79e118bba8f8da", func := "loop.example/g00312/laws.FnExactAndAll", spec := "fnExactAndAll", unfollowed := true, recurses := true, loops := true, apart := false }
def FnExactAndAllSaid : Prop := fnExactAndAllRow.holds Try.pinned (OpenSpec.ofChange fnExactAndAllSpec)

/-- ITS FALSE NEIGHBOUR: 'it returns false'. Refute it at one input. -/
def fnExactAndAllWrong : ChangeSpec := { name := "fnExactAndAll", fn := fun _ => fun
  | [d] => { results := [.lit (.bool false)], args := [d] }
  | _ => none }
def FnExactAndAllWrongFalsely : Prop := fnExactAndAllRow.holds Try.pinned (OpenSpec.ofChange fnExactAndAllWrong)

/-- 'laws.FnExactPut': WHATEVER THE INPUT: true; the input reads as it did. -/
def fnExactPutSpec : ChangeSpec := { name := "fnExactPut", fn := fun _ => fun
  | [d1, d2] => { results := [.lit (.bool true)], args := [d1, d2] }
  | _ => none }
def fnExactPutRow : OpenClaim := { program := "ytbhojlchibmfpaa", sum := "b4aeac677c9759c66c440a03ecb14d880638be340316a7324f79e118bba8f8da", func := "loop.example/g00312/laws.FnExactPut", spec := "fnExactPut", unfollowed := true, recurses := true, loops := true, apart := false }
def FnExactPutSaid : Prop := fnExactPutRow.holds Try.pinned (OpenSpec.ofChange fnExactPutSpec)

/-- ITS FALSE NEIGHBOUR: 'it returns false'. Refute it at one input. -/
def fnExactPutWrong : ChangeSpec := { name := "fnExactPut", fn := fun _ => fun
  | [d1, d2] => { results := [.lit (.bool false)], args := [d1, d2] }
  | _ => none }
def FnExactPutWrongFalsely : Prop := fnExactPutRow.holds Try.pinned (OpenSpec.ofChange fnExactPutWrong)

/-- 'laws.FnExactSameExp': WHATEVER THE INPUT: true; the input reads as it did. -/
def fnExactSameExpSpec : ChangeSpec := { name := "fnExactSameExp", fn := fun _ => fun
  | [d1, d2] => { results := [.lit (.bool true)], args := [d1, d2] }
  | _ => none }
def fnExactSameExpRow : OpenClaim := { program := "ytbhojlchibmfpaa", sum := "b4aeac677c9759c66c440a03ecb14d880638be340316a7324f79e118bba8f8da", func := "loop.example/g00312/laws.FnExactSameExp", spec := "fnExactSameExp", unfollowed := true, recurses := true, loops := true, apart := false }
def FnExactSameExpSaid : Prop := fnExactSameExpRow.holds Try.pinned (OpenSpec.ofChange fnExactSameExpSpec)

/-- ITS FALSE NEIGHBOUR: 'it returns false'. Refute it at one input. -/
def fnExactSameExpWrong : ChangeSpec := { name := "fnExactSameExp", fn := fun _ => fun
  | [d1, d2] => { results := [.lit (.bool false)], args := [d1, d2] }
  | _ => none }
def FnExactSameExpWrongFalsely : Prop := fnExactSameExpRow.holds Try.pinned (OpenSpec.ofChange fnExactSameExpWrong)

/- THE SECOND FORM. 'bulk': how many values and letters a reading holds, each counted each time it is reached (what is shared counts as often as it is met; a slice's spare places count too). A statement '..UptoSaid' is the law's where the arguments, and the package variables that the reading takes, are together of bulk at most 1048576: NARROWER than '..Said'. Prove '..Said' where nothing that the law and all that it calls make is longer than what came in: it says more and counts as full. Else prove '..UptoSaid'. A law counts once. -/
mutual
def uptoBulk {H : Type} : DataW H → Nat
  | .lit (.string bytes) => bytes.length + 1
  | .lit _ => 1
  | .nil => 1
  | .ptr d => uptoBulk d + 1
  | .slice elems spare => uptoBulkAll elems + uptoBulkAll spare + 1
  | .agg parts => uptoBulkAll parts + 1
  | .iface _ d => uptoBulk d + 1
  | .map entries => uptoBulkEntries entries + 1
  | .held _ => 1
def uptoBulkAll {H : Type} : List (DataW H) → Nat
  | [] => 0
  | d :: r => uptoBulk d + uptoBulkAll r
def uptoBulkEntries {H : Type} : List (Lit × DataW H) → Nat
  | [] => 0
  | x :: r => uptoBulkEntry x + uptoBulkEntries r
def uptoBulkEntry {H : Type} : Lit × DataW H → Nat
  | (.string bytes, d) => bytes.length + uptoBulk d + 1
  | (_, d) => uptoBulk d + 1
 end
def uptoSmall : (H : Type) → List (DataW H) → Bool := fun _ ds => decide (uptoBulkAll ds ≤ 1048576)
def OpenSpec.upto (s : _root_.Go.ChangeSpec) : _root_.Go.OpenSpec := { _root_.Go.OpenSpec.ofChange s with cond := some uptoSmall }

/-- 'laws.FnExactExpOk', WHERE WHAT IT READS IS OF BULK AT MOST 1048576: true; the input reads as it did. -/
def fnExactExpOkUptoRow : OpenClaim := { program := "ytbhojlchibmfpaa", sum := "b4aeac677c9759c66c440a03ecb14d880638be340316a7324f79e118bba8f8da", func := "loop.example/g00312/laws.FnExactExpOk", spec := "fnExactExpOk", unfollowed := true, recurses := true, loops := true, apart := false, narrowed := true }
def FnExactExpOkUptoSaid : Prop := fnExactExpOkUptoRow.holds Try.pinned (OpenSpec.upto fnExactExpOkSpec)

/-- 'laws.FnExactEval', WHERE WHAT IT READS IS OF BULK AT MOST 1048576: true; the input reads as it did. -/
def fnExactEvalUptoRow : OpenClaim := { program := "ytbhojlchibmfpaa", sum := "b4aeac677c9759c66c440a03ecb14d880638be340316a7324f79e118bba8f8da", func := "loop.example/g00312/laws.FnExactEval", spec := "fnExactEval", inPlace := ["internal/bytealg.IndexByteString", "internal/bytealg.IndexString"], unfollowed := true, recurses := true, named := ["internal/bytealg.MaxLen"], loops := true, apart := false, narrowed := true }
def FnExactEvalUptoSaid : Prop := fnExactEvalUptoRow.holds Try.pinned (OpenSpec.upto fnExactEvalSpec)

/-- 'laws.FnExactColsOf', WHERE WHAT IT READS IS OF BULK AT MOST 1048576: true; the input reads as it did. -/
def fnExactColsOfUptoRow : OpenClaim := { program := "ytbhojlchibmfpaa", sum := "b4aeac677c9759c66c440a03ecb14d880638be340316a7324f79e118bba8f8da", func := "loop.example/g00312/laws.FnExactColsOf", spec := "fnExactColsOf", recurses := true, loops := true, apart := false, narrowed := true }
def FnExactColsOfUptoSaid : Prop := fnExactColsOfUptoRow.holds Try.pinned (OpenSpec.upto fnExactColsOfSpec)

/-- 'laws.FnExactShift', WHERE WHAT IT READS IS OF BULK AT MOST 1048576: true; the input reads as it did. -/
def fnExactShiftUptoRow : OpenClaim := { program := "ytbhojlchibmfpaa", sum := "b4aeac677c9759c66c440a03ecb14d880638be340316a7324f79e118bba8f8da", func := "loop.example/g00312/laws.FnExactShift", spec := "fnExactShift", recurses := true, loops := true, apart := false, narrowed := true }
def FnExactShiftUptoSaid : Prop := fnExactShiftUptoRow.holds Try.pinned (OpenSpec.upto fnExactShiftSpec)

/-- 'laws.FnExactConj', WHERE WHAT IT READS IS OF BULK AT MOST 1048576: true; the input reads as it did. -/
def fnExactConjUptoRow : OpenClaim := { program := "ytbhojlchibmfpaa", sum := "b4aeac677c9759c66c440a03ecb14d880638be340316a7324f79e118bba8f8da", func := "loop.example/g00312/laws.FnExactConj", spec := "fnExactConj", recurses := true, loops := true, apart := false, narrowed := true }
def FnExactConjUptoSaid : Prop := fnExactConjUptoRow.holds Try.pinned (OpenSpec.upto fnExactConjSpec)

/-- 'laws.FnExactAndAll', WHERE WHAT IT READS IS OF BULK AT MOST 1048576: true; the input reads as it did. -/
def fnExactAndAllUptoRow : OpenClaim := { program := "ytbhojlchibmfpaa", sum := "b4aeac677c9759c66c440a03ecb14d880638be340316a7324f79e118bba8f8da", func := "loop.example/g00312/laws.FnExactAndAll", spec := "fnExactAndAll", unfollowed := true, recurses := true, loops := true, apart := false, narrowed := true }
def FnExactAndAllUptoSaid : Prop := fnExactAndAllUptoRow.holds Try.pinned (OpenSpec.upto fnExactAndAllSpec)

/-- 'laws.FnExactPut', WHERE WHAT IT READS IS OF BULK AT MOST 1048576: true; the input reads as it did. -/
def fnExactPutUptoRow : OpenClaim := { program := "ytbhojlchibmfpaa", sum := "b4aeac677c9759c66c440a03ecb14d880638be340316a7324f79e118bba8f8da", func := "loop.example/g00312/laws.FnExactPut", spec := "fnExactPut", unfollowed := true, recurses := true, loops := true, apart := false, narrowed := true }
def FnExactPutUptoSaid : Prop := fnExactPutUptoRow.holds Try.pinned (OpenSpec.upto fnExactPutSpec)

/-- 'laws.FnExactSameExp', WHERE WHAT IT READS IS OF BULK AT MOST 1048576: true; the input reads as it did. -/
def fnExactSameExpUptoRow : OpenClaim := { program := "ytbhojlchibmfpaa", sum := "b4aeac677c9759c66c440a03ecb14d880638be340316a7324f79e118bba8f8da", func := "loop.example/g00312/laws.FnExactSameExp", spec := "fnExactSameExp", unfollowed := true, recurses := true, loops := true, apart := false, narrowed := true }
def FnExactSameExpUptoSaid : Prop := fnExactSameExpUptoRow.holds Try.pinned (OpenSpec.upto fnExactSameExpSpec)

end Rows
end Go.Proofs.Ytbhojlchibmfpaa
