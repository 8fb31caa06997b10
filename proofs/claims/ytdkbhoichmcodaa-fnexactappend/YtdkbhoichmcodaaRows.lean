/-
  No cell of these rows narrows 'for every input' (looked for: loops, veiled, ifaces, maps, wideKeys, modest, calm, conditions, laid).
  DERIVED. THE GIVEN ROWS OF THIS SEAT. 7 by the template 'for every input the law returns true; each argument reads behind the call as it read before'; 0 by the template 'total and deterministic' (their statements: YtdkbhoichmcodaaTotals.lean).
  GIVEN WITH THE SEED: the statements are not yours to turn. If you find one false, say at which input.
  Laid BY PROGRAM, IN A SANDBOX (cutbox-rows.mjs): the forced cells as the released guide's own fill.sh prints them over the translation a831b524c8863a72… (all of the seat's roots in one cut). By AI agents, Wed Nov 11 2026. No macro, syntax, notation, axiom, sorry.
-/
import Derived.Test.YtdkbhoichmcodaaChecked
import GoSem.Claim
import GoSem.ClaimJoined
import GoSem.ClaimMapViews
import Derived.JoinedTies
import Derived.KernelRfl
namespace Go.Proofs.Ytdkbhoichmcodaa
/- THE CELL 'sum', in the pinned program and in every row, IS THE sha256 OF THE DUMP (.gsa) THAT YtdkbhoichmcodaaProg.lean LOADS. Nothing in Lean hashes anything: it is a label: what it is worth is what the hold of that sum in a sandbox is worth. -/
noncomputable def Try.pinned : Pinned := { name := "ytdkbhoichmcodaa", sum := "a831b524c8863a72960dfbdcfe401b731c2a8b6bd661534ddab7a0121012fc21", checked := Try.checked }
namespace Rows
def none {H : Type} : Left H := { results := [], args := [] }

/-- 'laws.FnExactBagOf': WHATEVER THE INPUT: true; the input reads as it did. -/
def fnExactBagOfSpec : ChangeSpec := { name := "fnExactBagOf", fn := fun _ => fun
  | [d1, d2] => { results := [.lit (.bool true)], args := [d1, d2] }
  | _ => none }
def fnExactBagOfRow : OpenClaim := { program := "ytdkbhoichmcodaa", sum := "a831b524c8863a72960dfbdcfe401b731c2a8b6bd661534ddab7a0121012fc21", func := "loop.example/g00312/laws.FnExactBagOf", spec := "fnExactBagOf", inPlace := ["internal/abi.NoEscape"], unfollowed := true, recurses := true, apart := false }
def FnExactBagOfSaid : Prop := fnExactBagOfRow.holds Try.pinned (OpenSpec.ofChange fnExactBagOfSpec)

/-- ITS FALSE NEIGHBOUR: 'it returns false'. Refute it at one input. -/
def fnExactBagOfWrong : ChangeSpec := { name := "fnExactBagOf", fn := fun _ => fun
  | [d1, d2] => { results := [.lit (.bool false)], args := [d1, d2] }
  | _ => none }
def FnExactBagOfWrongFalsely : Prop := fnExactBagOfRow.holds Try.pinned (OpenSpec.ofChange fnExactBagOfWrong)

/-- 'laws.FnExactChangeOk': WHATEVER THE INPUT: true; the input reads as it did. -/
def fnExactChangeOkSpec : ChangeSpec := { name := "fnExactChangeOk", fn := fun _ => fun
  | [d1, d2] => { results := [.lit (.bool true)], args := [d1, d2] }
  | _ => none }
def fnExactChangeOkRow : OpenClaim := { program := "ytdkbhoichmcodaa", sum := "a831b524c8863a72960dfbdcfe401b731c2a8b6bd661534ddab7a0121012fc21", func := "loop.example/g00312/laws.FnExactChangeOk", spec := "fnExactChangeOk", inPlace := ["internal/abi.NoEscape"], unfollowed := true, recurses := true, apart := false }
def FnExactChangeOkSaid : Prop := fnExactChangeOkRow.holds Try.pinned (OpenSpec.ofChange fnExactChangeOkSpec)

/-- ITS FALSE NEIGHBOUR: 'it returns false'. Refute it at one input. -/
def fnExactChangeOkWrong : ChangeSpec := { name := "fnExactChangeOk", fn := fun _ => fun
  | [d1, d2] => { results := [.lit (.bool false)], args := [d1, d2] }
  | _ => none }
def FnExactChangeOkWrongFalsely : Prop := fnExactChangeOkRow.holds Try.pinned (OpenSpec.ofChange fnExactChangeOkWrong)

/-- 'laws.FnExactStepOk': WHATEVER THE INPUT: true; the input reads as it did. -/
def fnExactStepOkSpec : ChangeSpec := { name := "fnExactStepOk", fn := fun _ => fun
  | [d] => { results := [.lit (.bool true)], args := [d] }
  | _ => none }
def fnExactStepOkRow : OpenClaim := { program := "ytdkbhoichmcodaa", sum := "a831b524c8863a72960dfbdcfe401b731c2a8b6bd661534ddab7a0121012fc21", func := "loop.example/g00312/laws.FnExactStepOk", spec := "fnExactStepOk", unfollowed := true, recurses := true, apart := false }
def FnExactStepOkSaid : Prop := fnExactStepOkRow.holds Try.pinned (OpenSpec.ofChange fnExactStepOkSpec)

/-- ITS FALSE NEIGHBOUR: 'it returns false'. Refute it at one input. -/
def fnExactStepOkWrong : ChangeSpec := { name := "fnExactStepOk", fn := fun _ => fun
  | [d] => { results := [.lit (.bool false)], args := [d] }
  | _ => none }
def FnExactStepOkWrongFalsely : Prop := fnExactStepOkRow.holds Try.pinned (OpenSpec.ofChange fnExactStepOkWrong)

/-- 'laws.FnExactPutStep': WHATEVER THE INPUT: true; the input reads as it did. -/
def fnExactPutStepSpec : ChangeSpec := { name := "fnExactPutStep", fn := fun _ => fun
  | [d] => { results := [.lit (.bool true)], args := [d] }
  | _ => none }
def fnExactPutStepRow : OpenClaim := { program := "ytdkbhoichmcodaa", sum := "a831b524c8863a72960dfbdcfe401b731c2a8b6bd661534ddab7a0121012fc21", func := "loop.example/g00312/laws.FnExactPutStep", spec := "fnExactPutStep", inPlace := ["internal/abi.NoEscape"], unfollowed := true, recurses := true, apart := false }
def FnExactPutStepSaid : Prop := fnExactPutStepRow.holds Try.pinned (OpenSpec.ofChange fnExactPutStepSpec)

/-- ITS FALSE NEIGHBOUR: 'it returns false'. Refute it at one input. -/
def fnExactPutStepWrong : ChangeSpec := { name := "fnExactPutStep", fn := fun _ => fun
  | [d] => { results := [.lit (.bool false)], args := [d] }
  | _ => none }
def FnExactPutStepWrongFalsely : Prop := fnExactPutStepRow.holds Try.pinned (OpenSpec.ofChange fnExactPutStepWrong)

/-- 'laws.FnExactGetStep': WHATEVER THE INPUT: true; the input reads as it did. -/
def fnExactGetStepSpec : ChangeSpec := { name := "fnExactGetStep", fn := fun _ => fun
  | [d] => { results := [.lit (.bool true)], args := [d] }
  | _ => none }
def fnExactGetStepRow : OpenClaim := { program := "ytdkbhoichmcodaa", sum := "a831b524c8863a72960dfbdcfe401b731c2a8b6bd661534ddab7a0121012fc21", func := "loop.example/g00312/laws.FnExactGetStep", spec := "fnExactGetStep", unfollowed := true, recurses := true, apart := false }
def FnExactGetStepSaid : Prop := fnExactGetStepRow.holds Try.pinned (OpenSpec.ofChange fnExactGetStepSpec)

/-- ITS FALSE NEIGHBOUR: 'it returns false'. Refute it at one input. -/
def fnExactGetStepWrong : ChangeSpec := { name := "fnExactGetStep", fn := fun _ => fun
  | [d] => { results := [.lit (.bool false)], args := [d] }
  | _ => none }
def FnExactGetStepWrongFalsely : Prop := fnExactGetStepRow.holds Try.pinned (OpenSpec.ofChange fnExactGetStepWrong)

/-- 'laws.FnExactSum': WHATEVER THE INPUT: true; the input reads as it did. -/
def fnExactSumSpec : ChangeSpec := { name := "fnExactSum", fn := fun _ => fun
  | [d] => { results := [.lit (.bool true)], args := [d] }
  | _ => none }
def fnExactSumRow : OpenClaim := { program := "ytdkbhoichmcodaa", sum := "a831b524c8863a72960dfbdcfe401b731c2a8b6bd661534ddab7a0121012fc21", func := "loop.example/g00312/laws.FnExactSum", spec := "fnExactSum", unfollowed := true, recurses := true, apart := false }
def FnExactSumSaid : Prop := fnExactSumRow.holds Try.pinned (OpenSpec.ofChange fnExactSumSpec)

/-- ITS FALSE NEIGHBOUR: 'it returns false'. Refute it at one input. -/
def fnExactSumWrong : ChangeSpec := { name := "fnExactSum", fn := fun _ => fun
  | [d] => { results := [.lit (.bool false)], args := [d] }
  | _ => none }
def FnExactSumWrongFalsely : Prop := fnExactSumRow.holds Try.pinned (OpenSpec.ofChange fnExactSumWrong)

/-- 'laws.FnExactAppend': WHATEVER THE INPUT: true; the input reads as it did. -/
def fnExactAppendSpec : ChangeSpec := { name := "fnExactAppend", fn := fun _ => fun
  | [d1, d2] => { results := [.lit (.bool true)], args := [d1, d2] }
  | _ => none }
def fnExactAppendRow : OpenClaim := { program := "ytdkbhoichmcodaa", sum := "a831b524c8863a72960dfbdcfe401b731c2a8b6bd661534ddab7a0121012fc21", func := "loop.example/g00312/laws.FnExactAppend", spec := "fnExactAppend", inPlace := ["internal/abi.NoEscape"], unfollowed := true, recurses := true, apart := false }
def FnExactAppendSaid : Prop := fnExactAppendRow.holds Try.pinned (OpenSpec.ofChange fnExactAppendSpec)

/-- ITS FALSE NEIGHBOUR: 'it returns false'. Refute it at one input. -/
def fnExactAppendWrong : ChangeSpec := { name := "fnExactAppend", fn := fun _ => fun
  | [d1, d2] => { results := [.lit (.bool false)], args := [d1, d2] }
  | _ => none }
def FnExactAppendWrongFalsely : Prop := fnExactAppendRow.holds Try.pinned (OpenSpec.ofChange fnExactAppendWrong)

/- THE SECOND FORM. 'bulk': how many values and letters a reading holds, each counted each time it is reached (what is shared counts as often as it is met; a slice's spare places count too). A statement '..UptoSaid' is the law's where the arguments, and the package variables that the reading takes, are together of bulk at most 1048576: NARROWER than '..Said'. Prove '..Said' where nothing that the law and all that it calls make is longer than what came in: it says more and counts as full. Else prove '..UptoSaid'. A law counts once. -/
mutual
def uptoBulk {H : Type} : DataW H → Nat
  | .lit (.string bytes) => bytes.length + 1
  | .lit _ => 1
  | .nil => 1
  | .ptr d => uptoBulk d + 1
  | .slice elems spare => uptoBulkAll elems + uptoBulkAll spare + 1
  | .agg parts => uptoBulkAll parts + 1
  | .iface _ d => uptoBulk d + 1
  | .map entries => uptoBulkEntries entries + 1
  | .held _ => 1
def uptoBulkAll {H : Type} : List (DataW H) → Nat
  | [] => 0
  | d :: r => uptoBulk d + uptoBulkAll r
def uptoBulkEntries {H : Type} : List (Lit × DataW H) → Nat
  | [] => 0
  | x :: r => uptoBulkEntry x + uptoBulkEntries r
def uptoBulkEntry {H : Type} : Lit × DataW H → Nat
  | (.string bytes, d) => bytes.length + uptoBulk d + 1
  | (_, d) => uptoBulk d + 1
 end
def uptoSmall : (H : Type) → List (DataW H) → Bool := fun _ ds => decide (uptoBulkAll ds ≤ 1048576)
def OpenSpec.upto (s : _root_.Go.ChangeSpec) : _root_.Go.OpenSpec := { _root_.Go.OpenSpec.ofChange s with cond := some uptoSmall }

/-- 'laws.FnExactBagOf', WHERE WHAT IT READS IS OF BULK AT MOST 1048576: true; the input reads as it did. -/
def fnExactBagOfUptoRow : OpenClaim := { program := "ytdkbhoichmcodaa", sum := "a831b524c8863a72960dfbdcfe401b731c2a8b6bd661534ddab7a0121012fc21", func := "loop.example/g00312/laws.FnExactBagOf", spec := "fnExactBagOf", inPlace := ["internal/abi.NoEscape"], unfollowed := true, recurses := true, apart := false, narrowed := true }
def FnExactBagOfUptoSaid : Prop := fnExactBagOfUptoRow.holds Try.pinned (OpenSpec.upto fnExactBagOfSpec)

/-- 'laws.FnExactChangeOk', WHERE WHAT IT READS IS OF BULK AT MOST 1048576: true; the input reads as it did. -/
def fnExactChangeOkUptoRow : OpenClaim := { program := "ytdkbhoichmcodaa", sum := "a831b524c8863a72960dfbdcfe401b731c2a8b6bd661534ddab7a0121012fc21", func := "loop.example/g00312/laws.FnExactChangeOk", spec := "fnExactChangeOk", inPlace := ["internal/abi.NoEscape"], unfollowed := true, recurses := true, apart := false, narrowed := true }
def FnExactChangeOkUptoSaid : Prop := fnExactChangeOkUptoRow.holds Try.pinned (OpenSpec.upto fnExactChangeOkSpec)

/-- 'laws.FnExactStepOk', WHERE WHAT IT READS IS OF BULK AT MOST 1048576: true; the input reads as it did. -/
def fnExactStepOkUptoRow : OpenClaim := { program := "ytdkbhoichmcodaa", sum := "a831b524c8863a72960dfbdcfe401b731c2a8b6bd661534ddab7a0121012fc21", func := "loop.example/g00312/laws.FnExactStepOk", spec := "fnExactStepOk", unfollowed := true, recurses := true, apart := false, narrowed := true }
def FnExactStepOkUptoSaid : Prop := fnExactStepOkUptoRow.holds Try.pinned (OpenSpec.upto fnExactStepOkSpec)

/-- 'laws.FnExactPutStep', WHERE WHAT IT READS IS OF BULK AT MOST 1048576: true; the input reads as it did. -/
def fnExactPutStepUptoRow : OpenClaim := { program := "ytdkbhoichmcodaa", sum := "a831b524c8863a72960dfbdcfe401b731c2a8b6bd661534ddab7a0121012fc21", func := "loop.example/g00312/laws.FnExactPutStep", spec := "fnExactPutStep", inPlace := ["internal/abi.NoEscape"], unfollowed := true, recurses := true, apart := false, narrowed := true }
def FnExactPutStepUptoSaid : Prop := fnExactPutStepUptoRow.holds Try.pinned (OpenSpec.upto fnExactPutStepSpec)

/-- 'laws.FnExactGetStep', WHERE WHAT IT READS IS OF BULK AT MOST 1048576: true; the input reads as it did. -/
def fnExactGetStepUptoRow : OpenClaim := { program := "ytdkbhoichmcodaa", sum := "a831b524c8863a72960dfbdcfe401b731c2a8b6bd661534ddab7a0121012fc21", func := "loop.example/g00312/laws.FnExactGetStep", spec := "fnExactGetStep", unfollowed := true, recurses := true, apart := false, narrowed := true }
def FnExactGetStepUptoSaid : Prop := fnExactGetStepUptoRow.holds Try.pinned (OpenSpec.upto fnExactGetStepSpec)

/-- 'laws.FnExactSum', WHERE WHAT IT READS IS OF BULK AT MOST 1048576: true; the input reads as it did. -/
def fnExactSumUptoRow : OpenClaim := { program := "ytdkbhoichmcodaa", sum := "a831b524c8863a72960dfbdcfe401b731c2a8b6bd661534ddab7a0121012fc21", func := "loop.example/g00312/laws.FnExactSum", spec := "fnExactSum", unfollowed := true, recurses := true, apart := false, narrowed := true }
def FnExactSumUptoSaid : Prop := fnExactSumUptoRow.holds Try.pinned (OpenSpec.upto fnExactSumSpec)

/-- 'laws.FnExactAppend', WHERE WHAT IT READS IS OF BULK AT MOST 1048576: true; the input reads as it did. -/
def fnExactAppendUptoRow : OpenClaim := { program := "ytdkbhoichmcodaa", sum := "a831b524c8863a72960dfbdcfe401b731c2a8b6bd661534ddab7a0121012fc21", func := "loop.example/g00312/laws.FnExactAppend", spec := "fnExactAppend", inPlace := ["internal/abi.NoEscape"], unfollowed := true, recurses := true, apart := false, narrowed := true }
def FnExactAppendUptoSaid : Prop := fnExactAppendUptoRow.holds Try.pinned (OpenSpec.upto fnExactAppendSpec)

end Rows
end Go.Proofs.Ytdkbhoichmcodaa
