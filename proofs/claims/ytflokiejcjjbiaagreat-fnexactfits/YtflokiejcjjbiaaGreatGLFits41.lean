/- Own texts, joined: contracts that the law's proof goes by. -/
import Derived.Test.YtflokiejcjjbiaaGreatGLFits1
import Derived.Handy
import Derived.Test.YtflokiejcjjbiaaGreatGLFits15
import Derived.Deep.RegionHeld3
set_option maxHeartbeats 16000000
set_option maxRecDepth 100000
set_option linter.unusedVariables false
set_option linter.unusedSimpArgs false
namespace Go.Proofs.YtflokiejcjjbiaaGreat
section
open Go.RowKit
def dg (u:Nat):List Int:=if h:u=0 then[]else have:u/10<u:=by omega
 dg (u/10)++ [((48+u %10:Nat):Int)]
def mt (u:Int):ByteArray:=⟨#[109]⟩++strOfNums (dg u.toNat)
end
end Go.Proofs.YtflokiejcjjbiaaGreat
