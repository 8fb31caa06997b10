/-
  NARROWER THAN 'FOR EVERY INPUT', by the rows' own cells (each row's printed sentence says how): FnExactColsOf: loops · FnExactShift: loops · FnExactConj: loops · FnExactAndAll: loops · FnExactSameExp: loops · FnExactSamePlan: loops · FnExactNames: loops · FnExactSteps: loops.
  DERIVED. THE GIVEN ROWS OF THIS SEAT. 11 by the template 'for every input the law returns true; each argument reads behind the call as it read before'; 0 by the template 'total and deterministic' (their statements: YtjhcachbaebhfaaTotals.lean).
  GIVEN WITH THE SEED: the statements are not yours to turn. If you find one false, say at which input.
  Laid BY PROGRAM, IN A SANDBOX (cutbox-rows.mjs): the forced cells as the released guide's own fill.sh prints them over the translation 29cc28458f2ebabf… (all of the seat's roots in one cut). By AI agents, Wed Nov 11 2026. No macro, syntax, notation, axiom, sorry.
-/
import Derived.Test.YtjhcachbaebhfaaChecked
import GoSem.Claim
import GoSem.ClaimJoined
import GoSem.ClaimMapViews
import Derived.JoinedTies
import Derived.KernelRfl
namespace Go.Proofs.Ytjhcachbaebhfaa
/- THE CELL 'sum', in the pinned program and in every row, IS THE sha256 OF THE DUMP (.gsa) THAT YtjhcachbaebhfaaProg.lean LOADS. Nothing in Lean hashes anything: it is a label: what it is worth is what the hold of that sum in a sandbox is worth. -/
noncomputable def Try.pinned : Pinned := { name := "ytjhcachbaebhfaa", sum := "29cc28458f2ebabfc8c2e83f9a1db769686ce29583877e3fe1168ba37da9f80a", checked := Try.checked }
namespace Rows
def none {H : Type} : Left H := { results := [], args := [] }

/-- 'laws.FnExactBagOf': WHATEVER THE INPUT: true; the input reads as it did. -/
def fnExactBagOfSpec : ChangeSpec := { name := "fnExactBagOf", fn := fun _ => fun
  | [d1, d2] => { results := [.lit (.bool true)], args := [d1, d2] }
  | _ => none }
def fnExactBagOfRow : OpenClaim := { program := "ytjhcachbaebhfaa", sum := "29cc28458f2ebabfc8c2e83f9a1db769686ce29583877e3fe1168ba37da9f80a", func := "loop.example/g00312/laws.FnExactBagOf", spec := "fnExactBagOf", inPlace := ["internal/abi.NoEscape"], unfollowed := true, recurses := true, plainKeys := false, leaving := true, apart := false }
def FnExactBagOfSaid : Prop := fnExactBagOfRow.holds Try.pinned (OpenSpec.ofChange fnExactBagOfSpec)

/-- ITS FALSE NEIGHBOUR: 'it returns false'. Refute it at one input. -/
def fnExactBagOfWrong : ChangeSpec := { name := "fnExactBagOf", fn := fun _ => fun
  | [d1, d2] => { results := [.lit (.bool false)], args := [d1, d2] }
  | _ => none }
def FnExactBagOfWrongFalsely : Prop := fnExactBagOfRow.holds Try.pinned (OpenSpec.ofChange fnExactBagOfWrong)

/-- 'laws.FnExactAddBag': WHATEVER THE INPUT: true; the input reads as it did. -/
def fnExactAddBagSpec : ChangeSpec := { name := "fnExactAddBag", fn := fun _ => fun
  | [d1, d2] => { results := [.lit (.bool true)], args := [d1, d2] }
  | _ => none }
def fnExactAddBagRow : OpenClaim := { program := "ytjhcachbaebhfaa", sum := "29cc28458f2ebabfc8c2e83f9a1db769686ce29583877e3fe1168ba37da9f80a", func := "loop.example/g00312/laws.FnExactAddBag", spec := "fnExactAddBag", inPlace := ["internal/abi.NoEscape"], unfollowed := true, recurses := true, plainKeys := false, leaving := true, apart := false }
def FnExactAddBagSaid : Prop := fnExactAddBagRow.holds Try.pinned (OpenSpec.ofChange fnExactAddBagSpec)

/-- ITS FALSE NEIGHBOUR: 'it returns false'. Refute it at one input. -/
def fnExactAddBagWrong : ChangeSpec := { name := "fnExactAddBag", fn := fun _ => fun
  | [d1, d2] => { results := [.lit (.bool false)], args := [d1, d2] }
  | _ => none }
def FnExactAddBagWrongFalsely : Prop := fnExactAddBagRow.holds Try.pinned (OpenSpec.ofChange fnExactAddBagWrong)

/-- 'laws.FnExactColsOf': WHATEVER THE INPUT: true; the input reads as it did. -/
def fnExactColsOfSpec : ChangeSpec := { name := "fnExactColsOf", fn := fun _ => fun
  | [d] => { results := [.lit (.bool true)], args := [d] }
  | _ => none }
def fnExactColsOfRow : OpenClaim := { program := "ytjhcachbaebhfaa", sum := "29cc28458f2ebabfc8c2e83f9a1db769686ce29583877e3fe1168ba37da9f80a", func := "loop.example/g00312/laws.FnExactColsOf", spec := "fnExactColsOf", unfollowed := true, recurses := true, loops := true, plainKeys := false, leaving := true, apart := false }
def FnExactColsOfSaid : Prop := fnExactColsOfRow.holds Try.pinned (OpenSpec.ofChange fnExactColsOfSpec)

/-- ITS FALSE NEIGHBOUR: 'it returns false'. Refute it at one input. -/
def fnExactColsOfWrong : ChangeSpec := { name := "fnExactColsOf", fn := fun _ => fun
  | [d] => { results := [.lit (.bool false)], args := [d] }
  | _ => none }
def FnExactColsOfWrongFalsely : Prop := fnExactColsOfRow.holds Try.pinned (OpenSpec.ofChange fnExactColsOfWrong)

/-- 'laws.FnExactShift': WHATEVER THE INPUT: true; the input reads as it did. -/
def fnExactShiftSpec : ChangeSpec := { name := "fnExactShift", fn := fun _ => fun
  | [d1, d2] => { results := [.lit (.bool true)], args := [d1, d2] }
  | _ => none }
def fnExactShiftRow : OpenClaim := { program := "ytjhcachbaebhfaa", sum := "29cc28458f2ebabfc8c2e83f9a1db769686ce29583877e3fe1168ba37da9f80a", func := "loop.example/g00312/laws.FnExactShift", spec := "fnExactShift", unfollowed := true, recurses := true, loops := true, plainKeys := false, leaving := true, apart := false }
def FnExactShiftSaid : Prop := fnExactShiftRow.holds Try.pinned (OpenSpec.ofChange fnExactShiftSpec)

/-- ITS FALSE NEIGHBOUR: 'it returns false'. Refute it at one input. -/
def fnExactShiftWrong : ChangeSpec := { name := "fnExactShift", fn := fun _ => fun
  | [d1, d2] => { results := [.lit (.bool false)], args := [d1, d2] }
  | _ => none }
def FnExactShiftWrongFalsely : Prop := fnExactShiftRow.holds Try.pinned (OpenSpec.ofChange fnExactShiftWrong)

/-- 'laws.FnExactConj': WHATEVER THE INPUT: true; the input reads as it did. -/
def fnExactConjSpec : ChangeSpec := { name := "fnExactConj", fn := fun _ => fun
  | [d] => { results := [.lit (.bool true)], args := [d] }
  | _ => none }
def fnExactConjRow : OpenClaim := { program := "ytjhcachbaebhfaa", sum := "29cc28458f2ebabfc8c2e83f9a1db769686ce29583877e3fe1168ba37da9f80a", func := "loop.example/g00312/laws.FnExactConj", spec := "fnExactConj", unfollowed := true, recurses := true, loops := true, plainKeys := false, leaving := true, apart := false }
def FnExactConjSaid : Prop := fnExactConjRow.holds Try.pinned (OpenSpec.ofChange fnExactConjSpec)

/-- ITS FALSE NEIGHBOUR: 'it returns false'. Refute it at one input. -/
def fnExactConjWrong : ChangeSpec := { name := "fnExactConj", fn := fun _ => fun
  | [d] => { results := [.lit (.bool false)], args := [d] }
  | _ => none }
def FnExactConjWrongFalsely : Prop := fnExactConjRow.holds Try.pinned (OpenSpec.ofChange fnExactConjWrong)

/-- 'laws.FnExactAndAll': WHATEVER THE INPUT: true; the input reads as it did. -/
def fnExactAndAllSpec : ChangeSpec := { name := "fnExactAndAll", fn := fun _ => fun
  | [d] => { results := [.lit (.bool true)], args := [d] }
  | _ => none }
def fnExactAndAllRow : OpenClaim := { program := "ytjhcachbaebhfaa", sum := "29cc28458f2ebabfc8c2e83f9a1db769686ce29583877e3fe1168ba37da9f80a", func := "loop.example/g00312/laws.FnExactAndAll", spec := "fnExactAndAll", unfollowed := true, recurses := true, loops := true, plainKeys := false, leaving := true, apart := false }
def FnExactAndAllSaid : Prop := fnExactAndAllRow.holds Try.pinned (OpenSpec.ofChange fnExactAndAllSpec)

/-- ITS FALSE NEIGHBOUR: 'it returns false'. Refute it at one input. -/
def fnExactAndAllWrong : ChangeSpec := { name := "fnExactAndAll", fn := fun _ => fun
  | [d] => { results := [.lit (.bool false)], args := [d] }
  | _ => none }
def FnExactAndAllWrongFalsely : Prop := fnExactAndAllRow.holds Try.pinned (OpenSpec.ofChange fnExactAndAllWrong)

/-- 'laws.FnExactSameExp': WHATEVER THE INPUT: true; the input reads as it did. -/
def fnExactSameExpSpec : ChangeSpec := { name := "fnExactSameExp", fn := fun _ => fun
  | [d1, d2] => { results := [.lit (.bool true)], args := [d1, d2] }
  | _ => none }
def fnExactSameExpRow : OpenClaim := { program := "ytjhcachbaebhfaa", sum := "29cc28458f2ebabfc8c2e83f9a1db769686ce29583877e3fe1168ba37da9f80a", func := "loop.example/g00312/laws.FnExactSameExp", spec := "fnExactSameExp", unfollowed := true, recurses := true, loops := true, plainKeys := false, leaving := true, apart := false }
def FnExactSameExpSaid : Prop := fnExactSameExpRow.holds Try.pinned (OpenSpec.ofChange fnExactSameExpSpec)

/-- ITS FALSE NEIGHBOUR: 'it returns false'. Refute it at one input. -/
def fnExactSameExpWrong : ChangeSpec := { name := "fnExactSameExp", fn := fun _ => fun
  | [d1, d2] => { results := [.lit (.bool false)], args := [d1, d2] }
  | _ => none }
def FnExactSameExpWrongFalsely : Prop := fnExactSameExpRow.holds Try.pinned (OpenSpec.ofChange fnExactSameExpWrong)

/-- 'laws.FnExactSamePlan': WHATEVER THE INPUT: true; the input reads as it did. -/
def fnExactSamePlanSpec : ChangeSpec := { name := "fnExactSamePlan", fn := fun _ => fun
  | [d1, d2] => { results := [.lit (.bool true)], args := [d1, d2] }
  | _ => none }
def fnExactSamePlanRow : OpenClaim := { program := "ytjhcachbaebhfaa", sum := "29cc28458f2ebabfc8c2e83f9a1db769686ce29583877e3fe1168ba37da9f80a", func := "loop.example/g00312/laws.FnExactSamePlan", spec := "fnExactSamePlan", unfollowed := true, recurses := true, loops := true, plainKeys := false, leaving := true, apart := false }
def FnExactSamePlanSaid : Prop := fnExactSamePlanRow.holds Try.pinned (OpenSpec.ofChange fnExactSamePlanSpec)

/-- ITS FALSE NEIGHBOUR: 'it returns false'. Refute it at one input. -/
def fnExactSamePlanWrong : ChangeSpec := { name := "fnExactSamePlan", fn := fun _ => fun
  | [d1, d2] => { results := [.lit (.bool false)], args := [d1, d2] }
  | _ => none }
def FnExactSamePlanWrongFalsely : Prop := fnExactSamePlanRow.holds Try.pinned (OpenSpec.ofChange fnExactSamePlanWrong)

/-- 'laws.FnExactNames': WHATEVER THE INPUT: true; the input reads as it did. -/
def fnExactNamesSpec : ChangeSpec := { name := "fnExactNames", fn := fun _ => fun
  | [d] => { results := [.lit (.bool true)], args := [d] }
  | _ => none }
def fnExactNamesRow : OpenClaim := { program := "ytjhcachbaebhfaa", sum := "29cc28458f2ebabfc8c2e83f9a1db769686ce29583877e3fe1168ba37da9f80a", func := "loop.example/g00312/laws.FnExactNames", spec := "fnExactNames", recurses := true, loops := true, plainKeys := false, apart := false }
def FnExactNamesSaid : Prop := fnExactNamesRow.holds Try.pinned (OpenSpec.ofChange fnExactNamesSpec)

/-- ITS FALSE NEIGHBOUR: 'it returns false'. Refute it at one input. -/
def fnExactNamesWrong : ChangeSpec := { name := "fnExactNames", fn := fun _ => fun
  | [d] => { results := [.lit (.bool false)], args := [d] }
  | _ => none }
def FnExactNamesWrongFalsely : Prop := fnExactNamesRow.holds Try.pinned (OpenSpec.ofChange fnExactNamesWrong)

/-- 'laws.FnExactChangeOk': WHATEVER THE INPUT: true; the input reads as it did. -/
def fnExactChangeOkSpec : ChangeSpec := { name := "fnExactChangeOk", fn := fun _ => fun
  | [d1, d2] => { results := [.lit (.bool true)], args := [d1, d2] }
  | _ => none }
def fnExactChangeOkRow : OpenClaim := { program := "ytjhcachbaebhfaa", sum := "29cc28458f2ebabfc8c2e83f9a1db769686ce29583877e3fe1168ba37da9f80a", func := "loop.example/g00312/laws.FnExactChangeOk", spec := "fnExactChangeOk", inPlace := ["internal/abi.NoEscape"], unfollowed := true, recurses := true, plainKeys := false, leaving := true, apart := false }
def FnExactChangeOkSaid : Prop := fnExactChangeOkRow.holds Try.pinned (OpenSpec.ofChange fnExactChangeOkSpec)

/-- ITS FALSE NEIGHBOUR: 'it returns false'. Refute it at one input. -/
def fnExactChangeOkWrong : ChangeSpec := { name := "fnExactChangeOk", fn := fun _ => fun
  | [d1, d2] => { results := [.lit (.bool false)], args := [d1, d2] }
  | _ => none }
def FnExactChangeOkWrongFalsely : Prop := fnExactChangeOkRow.holds Try.pinned (OpenSpec.ofChange fnExactChangeOkWrong)

/-- 'laws.FnExactSteps': WHATEVER THE INPUT: true; the input reads as it did. -/
def fnExactStepsSpec : ChangeSpec := { name := "fnExactSteps", fn := fun _ => fun
  | [d] => { results := [.lit (.bool true)], args := [d] }
  | _ => none }
def fnExactStepsRow : OpenClaim := { program := "ytjhcachbaebhfaa", sum := "29cc28458f2ebabfc8c2e83f9a1db769686ce29583877e3fe1168ba37da9f80a", func := "loop.example/g00312/laws.FnExactSteps", spec := "fnExactSteps", inPlace := ["(*sync.WaitGroup).Add", "internal/race.ReleaseMerge", "internal/race.Disable", "internal/race.Enable", "internal/synctest.IsInBubble", "internal/synctest.Associate[sync.WaitGroup]", "sync.fatal", "sync/atomic.OrUint64", "sync/atomic.AddUint64", "internal/race.Read", "sync/atomic.LoadUint64", "sync/atomic.StoreUint64", "internal/synctest.Disassociate[sync.WaitGroup]", "sync.runtime_Semrelease", "(*sync.WaitGroup).Done", "(*sync.WaitGroup).Wait", "internal/race.Acquire", "internal/synctest.IsAssociated[sync.WaitGroup]", "sync/atomic.CompareAndSwapUint64", "internal/race.Write", "sync.runtime_SemacquireWaitGroup"], unfollowed := true, recurses := true, loops := true, plainKeys := false, leaving := true, apart := false }
def FnExactStepsSaid : Prop := fnExactStepsRow.holds Try.pinned (OpenSpec.ofChange fnExactStepsSpec)

/-- ITS FALSE NEIGHBOUR: 'it returns false'. Refute it at one input. -/
def fnExactStepsWrong : ChangeSpec := { name := "fnExactSteps", fn := fun _ => fun
  | [d] => { results := [.lit (.bool false)], args := [d] }
  | _ => none }
def FnExactStepsWrongFalsely : Prop := fnExactStepsRow.holds Try.pinned (OpenSpec.ofChange fnExactStepsWrong)

/- THE SECOND FORM. 'bulk': how many values and letters a reading holds, each counted each time it is reached (what is shared counts as often as it is met; a slice's spare places count too). A statement '..UptoSaid' is the law's where the arguments, and the package variables that the reading takes, are together of bulk at most 1048576: NARROWER than '..Said'. Prove '..Said' where nothing that the law and all that it calls make is longer than what came in: it says more and counts as full. Else prove '..UptoSaid'. A law counts once. -/
mutual
def uptoBulk {H : Type} : DataW H → Nat
  | .lit (.string bytes) => bytes.length + 1
  | .lit _ => 1
  | .nil => 1
  | .ptr d => uptoBulk d + 1
  | .slice elems spare => uptoBulkAll elems + uptoBulkAll spare + 1
  | .agg parts => uptoBulkAll parts + 1
  | .iface _ d => uptoBulk d + 1
  | .map entries => uptoBulkEntries entries + 1
  | .held _ => 1
def uptoBulkAll {H : Type} : List (DataW H) → Nat
  | [] => 0
  | d :: r => uptoBulk d + uptoBulkAll r
def uptoBulkEntries {H : Type} : List (Lit × DataW H) → Nat
  | [] => 0
  | x :: r => uptoBulkEntry x + uptoBulkEntries r
def uptoBulkEntry {H : Type} : Lit × DataW H → Nat
  | (.string bytes, d) => bytes.length + uptoBulk d + 1
  | (_, d) => uptoBulk d + 1
 end
def uptoSmall : (H : Type) → List (DataW H) → Bool := fun _ ds => decide (uptoBulkAll ds ≤ 1048576)
def OpenSpec.upto (s : _root_.Go.ChangeSpec) : _root_.Go.OpenSpec := { _root_.Go.OpenSpec.ofChange s with cond := some uptoSmall }

/-- 'laws.FnExactBagOf', WHERE WHAT IT READS IS OF BULK AT MOST 1048576: true; the input reads as it did. -/
def fnExactBagOfUptoRow : OpenClaim := { program := "ytjhcachbaebhfaa", sum := "29cc28458f2ebabfc8c2e83f9a1db769686ce29583877e3fe1168ba37da9f80a", func := "loop.example/g00312/laws.FnExactBagOf", spec := "fnExactBagOf", inPlace := ["internal/abi.NoEscape"], unfollowed := true, recurses := true, plainKeys := false, leaving := true, apart := false, narrowed := true }
def FnExactBagOfUptoSaid : Prop := fnExactBagOfUptoRow.holds Try.pinned (OpenSpec.upto fnExactBagOfSpec)

/-- 'laws.FnExactAddBag', WHERE WHAT IT READS IS OF BULK AT MOST 1048576: true; the input reads as it did. -/
def fnExactAddBagUptoRow : OpenClaim := { program := "ytjhcachbaebhfaa", sum := "29cc28458f2ebabfc8c2e83f9a1db769686ce29583877e3fe1168ba37da9f80a", func := "loop.example/g00312/laws.FnExactAddBag", spec := "fnExactAddBag", inPlace := ["internal/abi.NoEscape"], unfollowed := true, recurses := true, plainKeys := false, leaving := true, apart := false, narrowed := true }
def FnExactAddBagUptoSaid : Prop := fnExactAddBagUptoRow.holds Try.pinned (OpenSpec.upto fnExactAddBagSpec)

/-- 'laws.FnExactColsOf', WHERE WHAT IT READS IS OF BULK AT MOST 1048576: true; the input reads as it did. -/
def fnExactColsOfUptoRow : OpenClaim := { program := "ytjhcachbaebhfaa", sum := "29cc28458f2ebabfc8c2e83f9a1db769686ce29583877e3fe1168ba37da9f80a", func := "loop.example/g00312/laws.FnExactColsOf", spec := "fnExactColsOf", unfollowed := true, recurses := true, loops := true, plainKeys := false, leaving := true, apart := false, narrowed := true }
def FnExactColsOfUptoSaid : Prop := fnExactColsOfUptoRow.holds Try.pinned (OpenSpec.upto fnExactColsOfSpec)

/-- 'laws.FnExactShift', WHERE WHAT IT READS IS OF BULK AT MOST 1048576: true; the input reads as it did. -/
def fnExactShiftUptoRow : OpenClaim := { program := "ytjhcachbaebhfaa", sum := "29cc28458f2ebabfc8c2e83f9a1db769686ce29583877e3fe1168ba37da9f80a", func := "loop.example/g00312/laws.FnExactShift", spec := "fnExactShift", unfollowed := true, recurses := true, loops := true, plainKeys := false, leaving := true, apart := false, narrowed := true }
def FnExactShiftUptoSaid : Prop := fnExactShiftUptoRow.holds Try.pinned (OpenSpec.upto fnExactShiftSpec)

/-- 'laws.FnExactConj', WHERE WHAT IT READS IS OF BULK AT MOST 1048576: true; the input reads as it did. -/
def fnExactConjUptoRow : OpenClaim := { program := "ytjhcachbaebhfaa", sum := "29cc28458f2ebabfc8c2e83f9a1db769686ce29583877e3fe1168ba37da9f80a", func := "loop.example/g00312/laws.FnExactConj", spec := "fnExactConj", unfollowed := true, recurses := true, loops := true, plainKeys := false, leaving := true, apart := false, narrowed := true }
def FnExactConjUptoSaid : Prop := fnExactConjUptoRow.holds Try.pinned (OpenSpec.upto fnExactConjSpec)

/-- 'laws.FnExactAndAll', WHERE WHAT IT READS IS OF BULK AT MOST 1048576: true; the input reads as it did. -/
def fnExactAndAllUptoRow : OpenClaim := { program := "ytjhcachbaebhfaa", sum := "29cc28458f2ebabfc8c2e83f9a1db769686ce29583877e3fe1168ba37da9f80a", func := "loop.example/g00312/laws.FnExactAndAll", spec := "fnExactAndAll", unfollowed := true, recurses := true, loops := true, plainKeys := false, leaving := true, apart := false, narrowed := true }
def FnExactAndAllUptoSaid : Prop := fnExactAndAllUptoRow.holds Try.pinned (OpenSpec.upto fnExactAndAllSpec)

/-- 'laws.FnExactSameExp', WHERE WHAT IT READS IS OF BULK AT MOST 1048576: true; the input reads as it did. -/
def fnExactSameExpUptoRow : OpenClaim := { program := "ytjhcachbaebhfaa", sum := "29cc28458f2ebabfc8c2e83f9a1db769686ce29583877e3fe1168ba37da9f80a", func := "loop.example/g00312/laws.FnExactSameExp", spec := "fnExactSameExp", unfollowed := true, recurses := true, loops := true, plainKeys := false, leaving := true, apart := false, narrowed := true }
def FnExactSameExpUptoSaid : Prop := fnExactSameExpUptoRow.holds Try.pinned (OpenSpec.upto fnExactSameExpSpec)

/-- 'laws.FnExactSamePlan', WHERE WHAT IT READS IS OF BULK AT MOST 1048576: true; the input reads as it did. -/
def fnExactSamePlanUptoRow : OpenClaim := { program := "ytjhcachbaebhfaa", sum := "29cc28458f2ebabfc8c2e83f9a1db769686ce29583877e3fe1168ba37da9f80a", func := "loop.example/g00312/laws.FnExactSamePlan", spec := "fnExactSamePlan", unfollowed := true, recurses := true, loops := true, plainKeys := false, leaving := true, apart := false, narrowed := true }
def FnExactSamePlanUptoSaid : Prop := fnExactSamePlanUptoRow.holds Try.pinned (OpenSpec.upto fnExactSamePlanSpec)

/-- 'laws.FnExactNames', WHERE WHAT IT READS IS OF BULK AT MOST 1048576: true; the input reads as it did. -/
def fnExactNamesUptoRow : OpenClaim := { program := "ytjhcachbaebhfaa", sum := "29cc28458f2ebabfc8c2e83f9a1db769686ce29583877e3fe1168ba37da9f80a", func := "loop.example/g00312/laws.FnExactNames", spec := "fnExactNames", recurses := true, loops := true, plainKeys := false, apart := false, narrowed := true }
def FnExactNamesUptoSaid : Prop := fnExactNamesUptoRow.holds Try.pinned (OpenSpec.upto fnExactNamesSpec)

/-- 'laws.FnExactChangeOk', WHERE WHAT IT READS IS OF BULK AT MOST 1048576: true; the input reads as it did. -/
def fnExactChangeOkUptoRow : OpenClaim := { program := "ytjhcachbaebhfaa", sum := "29cc28458f2ebabfc8c2e83f9a1db769686ce29583877e3fe1168ba37da9f80a", func := "loop.example/g00312/laws.FnExactChangeOk", spec := "fnExactChangeOk", inPlace := ["internal/abi.NoEscape"], unfollowed := true, recurses := true, plainKeys := false, leaving := true, apart := false, narrowed := true }
def FnExactChangeOkUptoSaid : Prop := fnExactChangeOkUptoRow.holds Try.pinned (OpenSpec.upto fnExactChangeOkSpec)

/-- 'laws.FnExactSteps', WHERE WHAT IT READS IS OF BULK AT MOST 1048576: true; the input reads as it did. -/
def fnExactStepsUptoRow : OpenClaim := { program := "ytjhcachbaebhfaa", sum := "29cc28458f2ebabfc8c2e83f9a1db769686ce29583877e3fe1168ba37da9f80a", func := "loop.example/g00312/laws.FnExactSteps", spec := "fnExactSteps", inPlace := ["(*sync.WaitGroup).Add", "internal/race.ReleaseMerge", "internal/race.Disable", "internal/race.Enable", "internal/synctest.IsInBubble", "internal/synctest.Associate[sync.WaitGroup]", "sync.fatal", "sync/atomic.OrUint64", "sync/atomic.AddUint64", "internal/race.Read", "sync/atomic.LoadUint64", "sync/atomic.StoreUint64", "internal/synctest.Disassociate[sync.WaitGroup]", "sync.runtime_Semrelease", "(*sync.WaitGroup).Done", "(*sync.WaitGroup).Wait", "internal/race.Acquire", "internal/synctest.IsAssociated[sync.WaitGroup]", "sync/atomic.CompareAndSwapUint64", "internal/race.Write", "sync.runtime_SemacquireWaitGroup"], unfollowed := true, recurses := true, loops := true, plainKeys := false, leaving := true, apart := false, narrowed := true }
def FnExactStepsUptoSaid : Prop := fnExactStepsUptoRow.holds Try.pinned (OpenSpec.upto fnExactStepsSpec)

end Rows
end Go.Proofs.Ytjhcachbaebhfaa
