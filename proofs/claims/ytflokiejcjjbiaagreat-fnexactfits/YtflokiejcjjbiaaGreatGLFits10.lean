/- Own texts, joined: contracts that the law's proof goes by. -/
import Derived.Shelf.Strings.Builder1
import Derived.Shelf.Small.Bits
import Derived.Shelf.Strconv.Itoa0
import Derived.Shelf.Strings.Search1
import Derived.Shelf.Strings.Search2
import Derived.Shelf.Strings.Search3
import Derived.Shelf.LaysM
import Derived.Shelf.Strings.Shaped
import Derived.Shelf.Sort.Plain
import Derived.Ground.Names2Prog
import Derived.Shelf.Slices.CompactI
import Derived.Shelf.Slices.Cells
import Derived.Test.YtflokiejcjjbiaaGreatProg
import Derived.Shelf.SlSortCmp.WholeK
import Derived.Shelf.SlGeneric
import Derived.Ground.SlsfProg
import Derived.Shelf.Spec.SlicesGrow
import Derived.Ground.Names8Prog
import Derived.Test.YtflokiejcjjbiaaGreatGLFits1
import Derived.Handy
import Derived.Lib.IndexLaws
import Derived.Lib.IndexMore
import Derived.Test.YtflokiejcjjbiaaGreatGLFits41
import Derived.Test.YtflokiejcjjbiaaGreatGLFits2
import Derived.Test.YtflokiejcjjbiaaGreatGLFits46
import Derived.Test.YtflokiejcjjbiaaGreatGLFits17
import Derived.Maps.AppendAt
set_option maxHeartbeats 16000000
set_option maxRecDepth 100000
set_option linter.unusedVariables false
set_option linter.unusedSimpArgs false
namespace Go.Proofs
open Go.Shelf
def Tryz.laysGrow_ren:Go.Shelf.Ren:=⟨fun|4=>139|n=>n,fun|22=>94|25=>36|3=>3|4=>4|9=>9|20=>20|0=>0|n=>n,fun|n=>n⟩
theorem Tryz.laysGrow:Go.Proofs.Lays8.n4 Tryz.prog Tryz.laysGrow_ren:={
 mixed:=by kernel_rfl
 f4:=⟨Tryz.f139.name,by decide,Tryz.func139.trans (congrArg some (by kernel_rfl))⟩
 t0:=Tryz.underlying0
 a0:=Tryz.isAgg0
 z0:=Tryz.sizeOf0
 v0:=Tryz.zeroValue0
 t3:=Tryz.underlying3
 a3:=Tryz.isAgg3
 z3:=Tryz.sizeOf3
 v3:=Tryz.zeroValue3
 t4:=Tryz.underlying4
 a4:=Tryz.isAgg4
 z4:=Tryz.sizeOf4
 v4:=Tryz.zeroValue4
 t9:=Tryz.underlying9
 a9:=Tryz.isAgg9
 z9:=Tryz.sizeOf9
 v9:=Tryz.zeroValue9
 t20:=Tryz.underlying20
 a20:=Tryz.isAgg20
 z20:=Tryz.sizeOf20
 v20:=Tryz.zeroValue20
 t22:=Tryz.underlying94
 a22:=Tryz.isAgg94
 z22:=Tryz.sizeOf94
 v22:=Tryz.zeroValue94}
def Tryz.laysSort_ren:Go.Shelf.Ren:=⟨fun|6=>163|15=>154|14=>190|28=>181|29=>182|20=>199|21=>200|22=>201|23=>202|24=>203|25=>204|26=>205|27=>206|46=>209|47=>192|48=>193|49=>210|50=>211|57=>216|n=>n,fun|22=>58|24=>96|25=>238|3=>3|39=>219|0=>0|53=>256|55=>258|4=>4|46=>249|45=>248|50=>191|5=>5|9=>9|66=>263|70=>267|76=>277|77=>278|n=>n,fun|n=>n⟩
theorem Tryz.laysSort:Go.Proofs.SlLaysF0.n6 Tryz.prog Tryz.laysSort_ren:={
 mixed:=by kernel_rfl
 f6:=⟨Tryz.f163.name,by decide,Tryz.func163.trans (congrArg some (by kernel_rfl))⟩
 f14:=⟨Tryz.f190.name,by decide,Tryz.func190.trans (congrArg some (by kernel_rfl))⟩
 f15:=Tryz.func154.trans (congrArg some (by kernel_rfl))
 f20:=⟨Tryz.f199.name,by decide,Tryz.func199.trans (congrArg some (by kernel_rfl))⟩
 f21:=⟨Tryz.f200.name,by decide,Tryz.func200.trans (congrArg some (by kernel_rfl))⟩
 f22:=⟨Tryz.f201.name,by decide,Tryz.func201.trans (congrArg some (by kernel_rfl))⟩
 f23:=⟨Tryz.f202.name,by decide,Tryz.func202.trans (congrArg some (by kernel_rfl))⟩
 f24:=⟨Tryz.f203.name,by decide,Tryz.func203.trans (congrArg some (by kernel_rfl))⟩
 f25:=⟨Tryz.f204.name,by decide,Tryz.func204.trans (congrArg some (by kernel_rfl))⟩
 f26:=⟨Tryz.f205.name,by decide,Tryz.func205.trans (congrArg some (by kernel_rfl))⟩
 f27:=⟨Tryz.f206.name,by decide,Tryz.func206.trans (congrArg some (by kernel_rfl))⟩
 f28:=Tryz.func181.trans (congrArg some (by kernel_rfl))
 f29:=Tryz.func182.trans (congrArg some (by kernel_rfl))
 f46:=⟨Tryz.f209.name,by decide,Tryz.func209.trans (congrArg some (by kernel_rfl))⟩
 f47:=Tryz.func192.trans (congrArg some (by kernel_rfl))
 f48:=Tryz.func193.trans (congrArg some (by kernel_rfl))
 f49:=⟨Tryz.f210.name,by decide,Tryz.func210.trans (congrArg some (by kernel_rfl))⟩
 f50:=⟨Tryz.f211.name,by decide,Tryz.func211.trans (congrArg some (by kernel_rfl))⟩
 f57:=⟨Tryz.f216.name,by decide,Tryz.func216.trans (congrArg some (by kernel_rfl))⟩
 t0:=Tryz.underlying0
 a0:=Tryz.isAgg0
 z0:=Tryz.sizeOf0
 v0:=Tryz.zeroValue0
 t3:=Tryz.underlying3
 a3:=Tryz.isAgg3
 z3:=Tryz.sizeOf3
 v3:=Tryz.zeroValue3
 t4:=Tryz.underlying4
 a4:=Tryz.isAgg4
 z4:=Tryz.sizeOf4
 v4:=Tryz.zeroValue4
 t5:=Tryz.underlying5
 a5:=Tryz.isAgg5
 z5:=Tryz.sizeOf5
 v5:=Tryz.zeroValue5
 t9:=Tryz.underlying9
 a9:=Tryz.isAgg9
 z9:=Tryz.sizeOf9
 v9:=Tryz.zeroValue9
 t22:=Tryz.underlying58
 a22:=Tryz.isAgg58
 z22:=Tryz.sizeOf58
 v22:=Tryz.zeroValue58
 t25:=Tryz.underlying238
 a25:=Tryz.isAgg238
 z25:=Tryz.sizeOf238
 v25:=Tryz.zeroValue238
 t39:=Tryz.underlying219
 a39:=Tryz.isAgg219
 z39:=Tryz.sizeOf219
 v39:=Tryz.zeroValue219
 t45:=Tryz.underlying248
 a45:=Tryz.isAgg248
 z45:=Tryz.sizeOf248
 v45:=Tryz.zeroValue248
 t46:=Tryz.underlying249
 a46:=Tryz.isAgg249
 z46:=Tryz.sizeOf249
 v46:=Tryz.zeroValue249
 t50:=Tryz.underlying191
 a50:=Tryz.isAgg191
 z50:=Tryz.sizeOf191
 v50:=Tryz.zeroValue191
 t53:=Tryz.underlying256
 a53:=Tryz.isAgg256
 z53:=Tryz.sizeOf256
 v53:=Tryz.zeroValue256
 t55:=Tryz.underlying258
 a55:=Tryz.isAgg258
 z55:=Tryz.sizeOf258
 v55:=Tryz.zeroValue258
 t66:=Tryz.underlying263
 a66:=Tryz.isAgg263
 z66:=Tryz.sizeOf263
 v66:=Tryz.zeroValue263
 t70:=Tryz.underlying267
 a70:=Tryz.isAgg267
 z70:=Tryz.sizeOf267
 v70:=Tryz.zeroValue267
 t76:=Tryz.underlying277
 a76:=Tryz.isAgg277
 z76:=Tryz.sizeOf277
 v76:=Tryz.zeroValue277
 t77:=Tryz.underlying278
 a77:=Tryz.isAgg278
 z77:=Tryz.sizeOf278
 v77:=Tryz.zeroValue278}
def Tryz.lays169_ren:Go.Shelf.Ren:=⟨fun|169=>162|n=>n,fun|70=>228|9=>9|0=>0|72=>231|37=>229|127=>261|3=>3|5=>5|n=>n,fun|n=>n⟩
theorem Tryz.lays169:Go.Proofs.Lays.n169 Tryz.prog Tryz.lays169_ren:={
 mixed:=by kernel_rfl
 f169:=Tryz.func162.trans (congrArg some (by kernel_rfl))
 t0:=Tryz.underlying0
 a0:=Tryz.isAgg0
 z0:=Tryz.sizeOf0
 v0:=Tryz.zeroValue0
 t3:=Tryz.underlying3
 a3:=Tryz.isAgg3
 z3:=Tryz.sizeOf3
 v3:=Tryz.zeroValue3
 t9:=Tryz.underlying9
 a9:=Tryz.isAgg9
 z9:=Tryz.sizeOf9
 v9:=Tryz.zeroValue9
 t37:=Tryz.underlying229
 a37:=Tryz.isAgg229
 z37:=Tryz.sizeOf229
 v37:=Tryz.zeroValue229
 t70:=Tryz.underlying228
 a70:=Tryz.isAgg228
 z70:=Tryz.sizeOf228
 v70:=Tryz.zeroValue228
 t72:=Tryz.underlying231
 a72:=Tryz.isAgg231
 z72:=Tryz.sizeOf231
 v72:=Tryz.zeroValue231
 t127:=Tryz.underlying261
 a127:=Tryz.isAgg261
 z127:=Tryz.sizeOf261
 v127:=Tryz.zeroValue261}
theorem Tryz.Builder_Extra_169:Builder.Extra Tryz.prog Tryz.lays169_ren:={
 sizeBuilder:=by kernel_rfl
 liesBuilder:=by kernel_rfl
 t5:=Tryz.underlying5
 a5:=Tryz.isAgg5
 z5:=Tryz.sizeOf5
 v5:=Tryz.zeroValue5
 infoByte:=by kernel_rfl
 cellsByte:=by kernel_rfl
 sizeByte:=by kernel_rfl
 neB5:=by decide}
open Go.RowKit in
theorem Tryz.Builder_String (B b:Nat)(l:List UInt8)(w:World)(h:Lib.IsBuilder 231 5 B b (Lib.byteCells l) w)(h0:l≠ []):Calls Tryz.prog 162 #[.pointer (some ⟨b,0,none⟩)] w fun e w'=>e=.returned (.string ⟨l.toArray⟩)∧Below B w w':=Any.Builder_String Tryz.lays169 Tryz.Builder_Extra_169 B b l w h h0
open Go.RowKit in
theorem Tryz.Builder_String_any (B b:Nat)(l:List UInt8)(w:World)(h:Lib.IsBuilder 231 5 B b (Lib.byteCells l) w)(hBw:B≤w.heap.size):Calls Tryz.prog 162 #[.pointer (some ⟨b,0,none⟩)] w fun e w'=>e=.returned (.string ⟨l.toArray⟩)∧Below B w w':=Any.Builder_String_any Tryz.lays169 Tryz.Builder_Extra_169 B b l w h hBw
def Tryz.lays144_ren:Go.Shelf.Ren:=⟨fun|144=>187|143=>196|219=>208|217=>212|225=>213|224=>214|267=>215|266=>217|314=>218|n=>n,fun|9=>9|4=>4|3=>3|5=>5|46=>219|146=>284|51=>256|n=>n,fun|1=>0|n=>n⟩
theorem Tryz.lays144:Go.Proofs.Lays.n144 Tryz.prog Tryz.lays144_ren:={
 mixed:=by kernel_rfl
 f143:=Tryz.func196.trans (congrArg some (by kernel_rfl))
 f144:=Tryz.func187.trans (congrArg some (by kernel_rfl))
 f217:=Tryz.func212.trans (congrArg some (by kernel_rfl))
 f219:=Tryz.func208.trans (congrArg some (by kernel_rfl))
 f224:=Tryz.func214.trans (congrArg some (by kernel_rfl))
 f225:=Tryz.func213.trans (congrArg some (by kernel_rfl))
 f266:=Tryz.func217.trans (congrArg some (by kernel_rfl))
 f267:=Tryz.func215.trans (congrArg some (by kernel_rfl))
 f314:=Tryz.func218.trans (congrArg some (by kernel_rfl))
 t3:=Tryz.underlying3
 a3:=Tryz.isAgg3
 z3:=Tryz.sizeOf3
 v3:=Tryz.zeroValue3
 t4:=Tryz.underlying4
 a4:=Tryz.isAgg4
 z4:=Tryz.sizeOf4
 v4:=Tryz.zeroValue4
 t5:=Tryz.underlying5
 a5:=Tryz.isAgg5
 z5:=Tryz.sizeOf5
 v5:=Tryz.zeroValue5
 t9:=Tryz.underlying9
 a9:=Tryz.isAgg9
 z9:=Tryz.sizeOf9
 v9:=Tryz.zeroValue9
 t46:=Tryz.underlying219
 a46:=Tryz.isAgg219
 z46:=Tryz.sizeOf219
 v46:=Tryz.zeroValue219
 t51:=Tryz.underlying256
 a51:=Tryz.isAgg256
 z51:=Tryz.sizeOf256
 v51:=Tryz.zeroValue256
 t146:=Tryz.underlying284
 a146:=Tryz.isAgg284
 z146:=Tryz.sizeOf284
 v146:=Tryz.zeroValue284
 g1:=by kernel_rfl}
open Go.RowKit Go.Lib in
theorem Tryz.strings_Contains (s sub:ByteArray)(m:Int)(w:World)(hs:s.size<4294967281)(hm:w.cell? ⟨0,0,none⟩=some (.int .i64 m)):Calls Tryz.prog 187 #[.string s,.string sub] w fun e w'=>e=.returned (.bool (Lib.contains s.data.toList sub.data.toList))∧w'=w:=Any.strings_Contains Tryz.lays144 s sub m w hs hm
def Tryz.laysM144_ren:Go.Shelf.Ren:=⟨fun|144=>187|143=>196|219=>208|217=>212|225=>213|224=>214|267=>215|266=>217|314=>218|n=>n,fun|9=>9|4=>4|3=>3|5=>5|46=>219|146=>284|51=>256|n=>n,fun|1=>0|n=>n⟩
theorem Tryz.laysM144:Go.Proofs.LaysM.n144 Tryz.prog Tryz.laysM144_ren:={
 mixed:=by kernel_rfl
 f143:=Tryz.func196.trans (congrArg some (by kernel_rfl))
 f144:=Tryz.func187.trans (congrArg some (by kernel_rfl))
 f217:=Tryz.func212.trans (congrArg some (by kernel_rfl))
 f219:=Tryz.func208.trans (congrArg some (by kernel_rfl))
 f224:=Tryz.func214.trans (congrArg some (by kernel_rfl))
 f225:=Tryz.func213.trans (congrArg some (by kernel_rfl))
 f266:=Tryz.func217.trans (congrArg some (by kernel_rfl))
 f267:=Tryz.func215.trans (congrArg some (by kernel_rfl))
 f314:=Tryz.func218.trans (congrArg some (by kernel_rfl))
 t3:=Tryz.underlying3
 a3:=Tryz.isAgg3
 z3:=Tryz.sizeOf3
 v3:=Tryz.zeroValue3
 t4:=Tryz.underlying4
 a4:=Tryz.isAgg4
 z4:=Tryz.sizeOf4
 v4:=Tryz.zeroValue4
 t5:=Tryz.underlying5
 a5:=Tryz.isAgg5
 z5:=Tryz.sizeOf5
 v5:=Tryz.zeroValue5
 t9:=Tryz.underlying9
 a9:=Tryz.isAgg9
 z9:=Tryz.sizeOf9
 v9:=Tryz.zeroValue9
 t46:=Tryz.underlying219
 a46:=Tryz.isAgg219
 z46:=Tryz.sizeOf219
 v46:=Tryz.zeroValue219
 t51:=Tryz.underlying256
 a51:=Tryz.isAgg256
 z51:=Tryz.sizeOf256
 v51:=Tryz.zeroValue256
 t146:=Tryz.underlying284
 a146:=Tryz.isAgg284
 z146:=Tryz.sizeOf284
 v146:=Tryz.zeroValue284
 g1:=by kernel_rfl
 i3:=by kernel_rfl
 i4:=by kernel_rfl
 i5:=by kernel_rfl
 i9:=by kernel_rfl
 i46:=by kernel_rfl
 i51:=by kernel_rfl
 i146:=by kernel_rfl
 m1:=by kernel_rfl
 s1_3:=fun w h=>Go.Proofs.cell_of_shapedOpen_int (zero:=#[.int .i64 0]) (t:=3) h (of_decide_eq_true (by kernel_rfl)) (by kernel_rfl) rfl (by kernel_rfl) (by kernel_rfl) Tryz.underlying3}
open Go.RowKit Go.Lib in
theorem Tryz.strings_Contains_shaped (s sub:ByteArray)(w:World)(h:w.ShapedOpen Tryz.prog)(hs:s.size<4294967281):Calls Tryz.prog 187 #[.string s,.string sub] w fun e w'=>e=.returned (.bool (Lib.contains s.data.toList sub.data.toList))∧w'=w:=Any.strings_Contains_shaped Tryz.laysM144 s sub w h hs
def Tryz.lays189_ren:Go.Shelf.Ren:=⟨fun|189=>126|125=>154|257=>153|128=>181|129=>182|294=>172|295=>173|296=>174|297=>175|298=>176|299=>177|216=>178|300=>179|301=>180|328=>191|329=>192|330=>193|331=>194|332=>195|215=>146|343=>207|n=>n,fun|28=>98|3=>3|46=>219|0=>0|51=>256|53=>258|4=>4|183=>249|182=>248|131=>191|5=>5|9=>9|218=>263|222=>267|228=>277|229=>278|n=>n,fun|n=>n⟩
theorem Tryz.lays189:Go.Proofs.Lays.n189 Tryz.prog Tryz.lays189_ren:={
 mixed:=by kernel_rfl
 f125:=Tryz.func154.trans (congrArg some (by kernel_rfl))
 f128:=Tryz.func181.trans (congrArg some (by kernel_rfl))
 f129:=Tryz.func182.trans (congrArg some (by kernel_rfl))
 f189:=Tryz.func126.trans (congrArg some (by kernel_rfl))
 f215:=Tryz.func146.trans (congrArg some (by kernel_rfl))
 f216:=Tryz.func178.trans (congrArg some (by kernel_rfl))
 f257:=Tryz.func153.trans (congrArg some (by kernel_rfl))
 f294:=Tryz.func172.trans (congrArg some (by kernel_rfl))
 f295:=Tryz.func173.trans (congrArg some (by kernel_rfl))
 f296:=Tryz.func174.trans (congrArg some (by kernel_rfl))
 f297:=Tryz.func175.trans (congrArg some (by kernel_rfl))
 f298:=Tryz.func176.trans (congrArg some (by kernel_rfl))
 f299:=Tryz.func177.trans (congrArg some (by kernel_rfl))
 f300:=Tryz.func179.trans (congrArg some (by kernel_rfl))
 f301:=Tryz.func180.trans (congrArg some (by kernel_rfl))
 f328:=Tryz.func191.trans (congrArg some (by kernel_rfl))
 f329:=Tryz.func192.trans (congrArg some (by kernel_rfl))
 f330:=Tryz.func193.trans (congrArg some (by kernel_rfl))
 f331:=Tryz.func194.trans (congrArg some (by kernel_rfl))
 f332:=Tryz.func195.trans (congrArg some (by kernel_rfl))
 f343:=Tryz.func207.trans (congrArg some (by kernel_rfl))
 t0:=Tryz.underlying0
 a0:=Tryz.isAgg0
 z0:=Tryz.sizeOf0
 v0:=Tryz.zeroValue0
 t3:=Tryz.underlying3
 a3:=Tryz.isAgg3
 z3:=Tryz.sizeOf3
 v3:=Tryz.zeroValue3
 t4:=Tryz.underlying4
 a4:=Tryz.isAgg4
 z4:=Tryz.sizeOf4
 v4:=Tryz.zeroValue4
 t5:=Tryz.underlying5
 a5:=Tryz.isAgg5
 z5:=Tryz.sizeOf5
 v5:=Tryz.zeroValue5
 t9:=Tryz.underlying9
 a9:=Tryz.isAgg9
 z9:=Tryz.sizeOf9
 v9:=Tryz.zeroValue9
 t28:=Tryz.underlying98
 a28:=Tryz.isAgg98
 z28:=Tryz.sizeOf98
 v28:=Tryz.zeroValue98
 t46:=Tryz.underlying219
 a46:=Tryz.isAgg219
 z46:=Tryz.sizeOf219
 v46:=Tryz.zeroValue219
 t51:=Tryz.underlying256
 a51:=Tryz.isAgg256
 z51:=Tryz.sizeOf256
 v51:=Tryz.zeroValue256
 t53:=Tryz.underlying258
 a53:=Tryz.isAgg258
 z53:=Tryz.sizeOf258
 v53:=Tryz.zeroValue258
 t131:=Tryz.underlying191
 a131:=Tryz.isAgg191
 z131:=Tryz.sizeOf191
 v131:=Tryz.zeroValue191
 t182:=Tryz.underlying248
 a182:=Tryz.isAgg248
 z182:=Tryz.sizeOf248
 v182:=Tryz.zeroValue248
 t183:=Tryz.underlying249
 a183:=Tryz.isAgg249
 z183:=Tryz.sizeOf249
 v183:=Tryz.zeroValue249
 t218:=Tryz.underlying263
 a218:=Tryz.isAgg263
 z218:=Tryz.sizeOf263
 v218:=Tryz.zeroValue263
 t222:=Tryz.underlying267
 a222:=Tryz.isAgg267
 z222:=Tryz.sizeOf267
 v222:=Tryz.zeroValue267
 t228:=Tryz.underlying277
 a228:=Tryz.isAgg277
 z228:=Tryz.sizeOf277
 v228:=Tryz.zeroValue277
 t229:=Tryz.underlying278
 a229:=Tryz.isAgg278
 z229:=Tryz.sizeOf278
 v229:=Tryz.zeroValue278}
open Go.Sort Go.RowKit in
theorem Tryz.slices_Sort_int (blk off cap:Nat)(zs:List Int)(w:World)(hH:Holds (Value.int .i64) w blk off zs.toArray)(hblk:blk<w.heap.size)(hsz:zs.length<4611686018427387904):Calls Tryz.prog 126 #[.slice (some ⟨blk,off,none⟩) zs.length cap] w fun e w'=>
   e=.returned (.tuple #[])∧∃n os,w'=grow (putRow (Value.int .i64) (Sort.ahead w n) blk off (zs.mergeSort fun x y=>decide (x≤y)).toArray) os:=Any.slices_Sort_int Tryz.lays189 blk off cap zs w hH hblk hsz
def Tryz.laysNm220_ren:Go.Shelf.Ren:=⟨fun|20=>127|n=>n,fun|22=>98|3=>3|4=>4|0=>0|n=>n,fun|n=>n⟩
theorem Tryz.laysNm220:Go.Proofs.Lays2.n20 Tryz.prog Tryz.laysNm220_ren:={
 mixed:=by kernel_rfl
 f20:=Tryz.func127.trans (congrArg some (by kernel_rfl))
 t0:=Tryz.underlying0
 a0:=Tryz.isAgg0
 z0:=Tryz.sizeOf0
 v0:=Tryz.zeroValue0
 t3:=Tryz.underlying3
 a3:=Tryz.isAgg3
 z3:=Tryz.sizeOf3
 v3:=Tryz.zeroValue3
 t4:=Tryz.underlying4
 a4:=Tryz.isAgg4
 z4:=Tryz.sizeOf4
 v4:=Tryz.zeroValue4
 t22:=Tryz.underlying98
 a22:=Tryz.isAgg98
 z22:=Tryz.sizeOf98
 v22:=Tryz.zeroValue98
 i3:=by kernel_rfl}
open Go.RowKit Go.Lib Go.Sort in
theorem Tryz.slices_Compact_int (blk off cap:Nat)(zs:List Int)(w:World)(hH:Holds (Value.int .i64) w blk off zs.toArray)(hsz:zs.length≤9223372036854775807)(hcap:zs.length≤cap):Calls Tryz.prog 127 #[.slice (some ⟨blk,off,none⟩) zs.length cap] w fun e w'=>e=.returned (.slice (some ⟨blk,off,none⟩) (Lib.compact zs).length cap)∧∃q,w'=putRow (Value.int .i64) (Sort.ahead w q) blk off (Lib.compact zs++List.replicate (zs.length - (Lib.compact zs).length) 0).toArray:=Any.slices_Compact_int Tryz.laysNm220 blk off cap zs w hH hsz hcap
open Go.RowKit Go.Lib Go.Sort in
theorem Tryz.slices_Compact_int_empty (a:Option Addr)(cap:Nat)(w:World):Calls Tryz.prog 127 #[.slice a 0 cap] w fun e w'=>e=.returned (.slice a 0 cap)∧w'=w:=Any.slices_Compact_int_empty Tryz.laysNm220 a cap w
end Go.Proofs
namespace Go.Proofs.YtflokiejcjjbiaaGreat
section
open Go.RowKit
theorem occ_iff (s t:ByteArray)(k:Nat)(h:k+t.size≤s.size):((s.extract k (k+t.size)).toList==t.toList)=Lib.occAt s.data.toList t.data.toList k:=by
 rw[ByteArray.toList_eq,ByteArray.toList_eq,extract_list,Nat.add_sub_cancel_left,Lib.occAt,Bool.eq_iff_iff,beq_iff_eq,List.isPrefixOf_iff_prefix,List.prefix_iff_eq_take];have hl:t.data.toList.length=t.size:=rfl;rw[hl];exact eq_comm
theorem contains_hit (s t:ByteArray)(k:Nat)(hk:k≤s.size)(hn:Lib.NoOcc s.data.toList t.data.toList k)(ho:Lib.occAt s.data.toList t.data.toList k=true):Lib.contains s.data.toList t.data.toList=true:=by
 rw[Lib.contains,Lib.index_hit hn (by simpa using hk) ho];simp
theorem contains_past (s t:ByteArray)(k:Nat)(hn:Lib.NoOcc s.data.toList t.data.toList k)(hk:s.size<k+t.size):Lib.contains s.data.toList t.data.toList=false:=by
 by_cases ht:t.data.toList=[]
 ·have hz:t.size=0:=by show t.data.toList.length=0;rw[ht];rfl
  have:=hn 0 (by omega);rw[ht]at this;simp[Lib.occAt]at this
 ·have hl:t.data.toList.length=t.size:=rfl;have hl2:s.data.toList.length=s.size:=rfl;rw[Lib.contains,Lib.index_past ht hn (by omega)];rfl
theorem NoOcc_succ (s t:List UInt8)(k:Nat)(hn:Lib.NoOcc s t k)(ho:Lib.occAt s t k=false):Lib.NoOcc s t (k+1):=by
 intro j hj;by_cases e:j=k
 ·subst e;exact ho
 ·exact hn j (by omega)
theorem l01Holds_any (s t:ByteArray)(w:World)(hs:s.size≤1048576)(ht:t.size≤1048576):Calls Tryz.prog 149 #[.string s,.string t] w fun e w'=>e=.returned (.bool (Lib.contains s.data.toList t.data.toList))∧w'=w:=by
 go_enter Tryz.func149,Tryz.ntmps149;go_wp2
 go_loop [5] (fun i=> ∃k:Nat,k≤s.size+1∧i=.int .i64 k∧Lib.NoOcc s.data.toList t.data.toList k) (fun i=>s.size+1 - (intOf i).toNat)
 case atStart=>exact⟨0,by omega,rfl,Lib.NoOcc.zero _ _⟩
 case round=>
  obtain⟨k,hk,rfl,hn0⟩:=hrel;have hn:Hid (Lib.NoOcc s.data.toList t.data.toList k):=hn0;clear hn0;by_cases hlt:k+t.size≤s.size
  ·have hle:(k:Int)+t.size≤s.size:=by omega
   have hen:((k:Int)+(t.size:Int)).toNat=k+t.size:=by omega
   have hoc:Hid (((s.extract k (k+t.size)).toList==t.toList)=Lib.occAt s.data.toList t.data.toList k):=occ_iff s t k hlt;by_cases ho:((s.extract k (k+t.size)).toList==t.toList)=true
   ·have hfin:Hid (Lib.contains s.data.toList t.data.toList=true):=contains_hit s t k (by omega) hn.out (by rw[←hoc.out];exact ho);go_wp2;go_returns;exact⟨rB8 hfin.out.symm,rfl⟩
   ·have ho':((s.extract k (k+t.size)).toList==t.toList)=false:=by simpa using ho
    have hno:Hid (Lib.NoOcc s.data.toList t.data.toList (k+1)):=NoOcc_succ _ _ k hn.out (by rw[←hoc.out];exact ho');clear ho;go_wp2;exact⟨⟨k+1,by omega,by go_num,hno.out⟩,by simp[intOf];omega⟩
  ·have hgt:(s.size:Int)<(k:Int)+t.size:=by omega
   have hfin:Hid (Lib.contains s.data.toList t.data.toList=false):=contains_past s t k hn.out (by omega);go_wp2;go_returns;exact⟨rB8 hfin.out.symm,rfl⟩
end
section
open Go.RowKit Go.Deep
def IntsF (w:World)(v:Value)(ns:List Int)(g:List Nat):Prop:=
 ∃ (a:Option Addr) (c:Nat),v=.slice a ns.length c∧ns.length≤c∧c≤maxLen∧(ns=[]→g=[])∧(ns≠ []→∃b o,a=some ⟨b,o,none⟩∧b<w.heap.size∧g=[b]∧∀i n,ns[i]?=some n→w.cell? ⟨b,o+i,none⟩=some (.int .i64 n))
theorem IntsF.lt {w:World}{v:Value}{ns:List Int}{g:List Nat}(h:IntsF w v ns g):∀b∈g,b<w.heap.size:=by
 obtain⟨a,c,_,_,_,h0,h⟩:=h;by_cases hne:ns=[]
 ·rw[h0 hne];intro b hb;cases hb
 ·obtain⟨b,o,_,hlt,rfl,_⟩:=h hne;intro x hx;rcases List.mem_singleton.1 hx with rfl;exact hlt
theorem IntsF.keep {w w':World}{v:Value}{ns:List Int}{g:List Nat}(h:IntsF w v ns g)(hs:w.heap.size≤w'.heap.size)(hg:∀b∈g,w'.heap[b]?=w.heap[b]?):IntsF w' v ns g:=by
 obtain⟨a,c,e,hl,hc,h0,h⟩:=h;refine⟨a,c,e,hl,hc,h0,fun hne=>?_⟩;obtain⟨b,o,ea,hlt,rfl,hC⟩:=h hne;exact⟨b,o,ea,by omega,rfl,fun i n hn=>(cb8 (hg b (by simp))).trans (hC i n hn)⟩
theorem IntsF.below {w w':World}{v:Value}{ns:List Int}{g:List Nat}(h:IntsF w v ns g)(hb:Below w.heap.size w w'):IntsF w' v ns g:=h.keep hb.size fun b hg=>hb.block b (h.lt b hg)
theorem IntsF.pick {w:World}{v:Value}{ns:List Int}{g:List Nat}(h:IntsF w v ns g):∃a c b o,v=.slice a ns.length c∧ns.length≤c∧c≤maxLen∧(ns=[]→g=[])∧∀k,k<ns.length→a=some ⟨b,o,none⟩∧b<w.heap.size∧g=[b]∧∀i n,ns[i]?=some n→w.cell? ⟨b,o+i,none⟩=some (.int .i64 n):=by
 obtain⟨a,c,rfl,hl,hc,h0,h⟩:=h;by_cases hne:ns=[]
 ·exact⟨a,c,0,0,rfl,hl,hc,h0,fun k hk=>by rw[hne]at hk;simp at hk⟩
 ·obtain⟨b,o,h⟩:=h hne;exact⟨a,c,b,o,rfl,hl,hc,h0,fun _ _=>h⟩
end
section
open Go.RowKit Go.Deep Go.ChangeShapes Go.WideShapes
theorem putRow_blk {α:Type}[Inhabited α](enc:α→Value)(w:World)(blk off:Nat)(d:Array α){k:Nat}(h:k≠blk):(Sort.putRow enc w blk off d).heap[k]?=w.heap[k]?:=by
 unfold Sort.putRow Sort.mapBlock;simp[Array.getElem?_modify,Ne.symm h]
theorem colN_take {ns:List Nd}{k:Nat}{x:Nd}(h:ns[k]?=some x):colN (ns.take (k+1))=if x.e.k=0 then colN (ns.take k)++ [x.e.n]else colN (ns.take k):=by
 unfold colN;rw[take_snocC h,List.filter_append,List.map_append];by_cases h0:x.e.k=0
 ·rw[if_pos h0];simp[h0]
 ·rw[if_neg h0];simp[h0]
theorem colN_len (ns:List Nd):(colN ns).length≤ns.length:=by
 unfold colN;rw[List.length_map];exact List.length_filter_le _ _
theorem own_holds {w:World}{N:Nat}{zs:List Int}{t:TypeId}{yb yc:Nat}(h:w.ownsRow N t 1 (.slice (some ⟨yb,0,none⟩) zs.length yc) zs.length (ints zs)):Sort.Holds (Value.int .i64) w yb 0 zs.toArray∧zs.length≤yc∧yc≤maxLen∧N≤yb∧yb<w.heap.size∧∀o,w.frozen? ⟨yb,o,none⟩=false:=by
 have hlt:=ownsE_lt h;obtain⟨hl,ho⟩:=h;rcases ho with⟨h0,_⟩|⟨g,cap,cur,hv,hg,hc,hn',hm,hs,ht⟩
 ·cases h0
 injection hv with e1 _ e3;injection e1 with e1;injection e1 with e1;subst e1 e3;refine⟨fun j hj=>?_,hn',hm,hg,(hlt yb rfl).2,fun o=>by simp[World.frozen?,hc]⟩;have hj':j<zs.length:=by simpa using hj
 refine⟨?_,by simp[World.frozen?,hc]⟩;have hu:(ints zs)[j]?=some (.int .i64 zs[j]):=by simp[ints]
 rw[getElem!_pos zs.toArray j hj];simp only[World.cell?,hc];rw[←ht,List.getElem?_take,if_pos (by omega),Array.getElem?_toList]at hu
 simpa using hu
theorem sorted_ints {w w2 w3:World}{N yb yc n q:Nat}{zs L:List Int}{os:Array Obj}(hH:Sort.Holds (Value.int .i64) w yb 0 zs.toArray)(hc:zs.length≤yc)(hm:yc≤maxLen)(hN:N≤yb)(hlt:yb<w.heap.size)(hf:∀o,w.frozen? ⟨yb,o,none⟩=false)(h2:w2=Sort.grow (Sort.putRow (Value.int .i64) (Sort.ahead w n) yb 0 (zs.mergeSort fun x y=>decide (x≤y)).toArray) os)(h3:w3=Sort.putRow (Value.int .i64) (Sort.ahead w2 q) yb 0 (Lib.compact (zs.mergeSort fun x y=>decide (x≤y))++List.replicate (zs.length - (Lib.compact (zs.mergeSort fun x y=>decide (x≤y))).length) 0).toArray)(hL:Lib.compact (zs.mergeSort fun x y=>decide (x≤y))=L):(∃g,IntsF w3 (.slice (some ⟨yb,0,none⟩) L.length yc) L g∧Own w3 N g)∧Below N w w3:=by
 rw[hL]at h3;have hLl:L.length≤zs.length:=by
  rw[←hL];have:=Lib.compact_length_le (zs.mergeSort fun x y=>decide (x≤y))
  rwa [List.length_mergeSort]at this
 have hms:(zs.mergeSort fun x y=>decide (x≤y)).length=zs.length:=List.length_mergeSort _;generalize(zs.mergeSort fun x y=>decide (x≤y))=ms at*;have hz2:w.heap.size≤w2.heap.size:=by rw[h2];simp
 have hz3:w3.heap.size=w2.heap.size:=by rw[h3];simp
 have hH2:Sort.Holds (Value.int .i64) w2 yb 0 ms.toArray:=by
  rw[h2];exact Sort.holds_grow _ _ _ _ _ _ (by simpa using hlt) (Sort.holds_putRow _ _ _ _ zs.toArray ms.toArray (Sort.holds_ahead _ _ _ _ _ _ hH) (by simpa using hms))
 have hd:(L++List.replicate (zs.length -L.length) (0:Int)).toArray.size=ms.toArray.size:=by simp;omega
 have hcell:∀j,j<L.length→∀x,L[j]?=some x→w3.cell? ⟨yb,0+j,none⟩=some (.int .i64 x):=by
  intro j hj x hx;rw[h3,Sort.cell?_putRow (Value.int .i64) _ yb 0 ms.toArray _ (Sort.holds_ahead _ _ _ _ _ _ hH2) hd j (by simp;omega)];have hj2:j<(L++List.replicate (zs.length -L.length) (0:Int)).toArray.size:=by simp;omega
  rw[getElem!_pos _ j hj2];have hx2:L[j]=x:=by simpa [hj]using hx
  simp[List.getElem_append_left hj,hx2]
 have hf3:∀o,w3.frozen? ⟨yb,o,none⟩=false:=by
  intro o;rw[h3,Sort.frozen?_putRow,Sort.frozen?_ahead,h2,Sort.frozen?_grow _ _ _ (by simpa using hlt),Sort.frozen?_putRow,Sort.frozen?_ahead];exact hf o
 have hbel:Below N w w3:=by
  refine⟨by rw[h3,h2];rfl,by rw[h3,h2];rfl,by rw[h3,h2];rfl,by omega,fun k hk=>?_⟩;rw[h3,putRow_blk _ _ _ _ _ (by omega),Sort.heap_ahead,h2,Sort.heap_grow_old _ _ (by simp;omega),putRow_blk _ _ _ _ _ (by omega),Sort.heap_ahead]
 refine⟨?_,hbel⟩;by_cases hne:L=[]
 ·subst hne;exact⟨[],⟨_,yc,rfl,Nat.zero_le _,hm,fun _=>rfl,fun h=>absurd rfl h⟩,by simp[Own,OwnN]⟩
 ·exact⟨[yb],⟨_,yc,rfl,by omega,hm,fun h=>absurd h hne,fun _=>⟨yb,0,rfl,by omega,rfl,fun i x hx=>hcell i (gE1 hx).1 x hx⟩⟩,by simp,fun b hb=>by rcases List.mem_singleton.1 hb with rfl;exact⟨hN,hf3⟩⟩
end
end Go.Proofs.YtflokiejcjjbiaaGreat
