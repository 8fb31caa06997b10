/- The library's contracts at this program, in plain words (laid by program). -/
import Derived.Shelf.Strings.Builder1
import Derived.Shelf.Sort.Plain
import Derived.Ground.Names2Prog
import Derived.Shelf.Slices.CompactI
import Derived.Shelf.Slices.CompactS
import Derived.Shelf.Slices.Cells
import Derived.Shelf.Slices.In.SortNone
import Derived.Test.YtjhcachbaebhfaaProg
namespace Go.Proofs
open Go.Shelf
def Try.lays189_ren : Go.Shelf.Ren := ⟨fun | 189 => 92 | 125 => 151 | 257 => 150 | 128 => 201 | 129 => 202 | 294 => 192 | 295 => 193 | 296 => 194 | 297 => 195 | 298 => 196 | 299 => 197 | 216 => 198 | 300 => 199 | 301 => 200 | 328 => 227 | 329 => 228 | 330 => 229 | 331 => 230 | 332 => 231 | 215 => 226 | 343 => 247 | n => n, fun | 28 => 48 | 3 => 3 | 46 => 191 | 0 => 0 | 51 => 168 | 53 => 165 | 4 => 4 | 183 => 253 | 182 => 252 | 131 => 199 | 5 => 5 | 9 => 9 | 218 => 289 | 222 => 292 | 228 => 304 | 229 => 305 | n => n, fun | n => n⟩
theorem Try.lays189 : Go.Proofs.Lays.n189 Try.prog Try.lays189_ren := {
  mixed := by kernel_rfl
  f125 := Try.func151.trans (congrArg some (by kernel_rfl))
  f128 := Try.func201.trans (congrArg some (by kernel_rfl))
  f129 := Try.func202.trans (congrArg some (by kernel_rfl))
  f189 := Try.func92.trans (congrArg some (by kernel_rfl))
  f215 := Try.func226.trans (congrArg some (by kernel_rfl))
  f216 := Try.func198.trans (congrArg some (by kernel_rfl))
  f257 := Try.func150.trans (congrArg some (by kernel_rfl))
  f294 := Try.func192.trans (congrArg some (by kernel_rfl))
  f295 := Try.func193.trans (congrArg some (by kernel_rfl))
  f296 := Try.func194.trans (congrArg some (by kernel_rfl))
  f297 := Try.func195.trans (congrArg some (by kernel_rfl))
  f298 := Try.func196.trans (congrArg some (by kernel_rfl))
  f299 := Try.func197.trans (congrArg some (by kernel_rfl))
  f300 := Try.func199.trans (congrArg some (by kernel_rfl))
  f301 := Try.func200.trans (congrArg some (by kernel_rfl))
  f328 := Try.func227.trans (congrArg some (by kernel_rfl))
  f329 := Try.func228.trans (congrArg some (by kernel_rfl))
  f330 := Try.func229.trans (congrArg some (by kernel_rfl))
  f331 := Try.func230.trans (congrArg some (by kernel_rfl))
  f332 := Try.func231.trans (congrArg some (by kernel_rfl))
  f343 := Try.func247.trans (congrArg some (by kernel_rfl))
  t0 := Try.underlying0
  a0 := Try.isAgg0
  z0 := Try.sizeOf0
  v0 := Try.zeroValue0
  t3 := Try.underlying3
  a3 := Try.isAgg3
  z3 := Try.sizeOf3
  v3 := Try.zeroValue3
  t4 := Try.underlying4
  a4 := Try.isAgg4
  z4 := Try.sizeOf4
  v4 := Try.zeroValue4
  t5 := Try.underlying5
  a5 := Try.isAgg5
  z5 := Try.sizeOf5
  v5 := Try.zeroValue5
  t9 := Try.underlying9
  a9 := Try.isAgg9
  z9 := Try.sizeOf9
  v9 := Try.zeroValue9
  t28 := Try.underlying48
  a28 := Try.isAgg48
  z28 := Try.sizeOf48
  v28 := Try.zeroValue48
  t46 := Try.underlying191
  a46 := Try.isAgg191
  z46 := Try.sizeOf191
  v46 := Try.zeroValue191
  t51 := Try.underlying168
  a51 := Try.isAgg168
  z51 := Try.sizeOf168
  v51 := Try.zeroValue168
  t53 := Try.underlying165
  a53 := Try.isAgg165
  z53 := Try.sizeOf165
  v53 := Try.zeroValue165
  t131 := Try.underlying199
  a131 := Try.isAgg199
  z131 := Try.sizeOf199
  v131 := Try.zeroValue199
  t182 := Try.underlying252
  a182 := Try.isAgg252
  z182 := Try.sizeOf252
  v182 := Try.zeroValue252
  t183 := Try.underlying253
  a183 := Try.isAgg253
  z183 := Try.sizeOf253
  v183 := Try.zeroValue253
  t218 := Try.underlying289
  a218 := Try.isAgg289
  z218 := Try.sizeOf289
  v218 := Try.zeroValue289
  t222 := Try.underlying292
  a222 := Try.isAgg292
  z222 := Try.sizeOf292
  v222 := Try.zeroValue292
  t228 := Try.underlying304
  a228 := Try.isAgg304
  z228 := Try.sizeOf304
  v228 := Try.zeroValue304
  t229 := Try.underlying305
  a229 := Try.isAgg305
  z229 := Try.sizeOf305
  v229 := Try.zeroValue305 }
open Go.Sort Go.RowKit in
theorem Try.slices_Sort_int (blk off cap : Nat) (zs : List Int) (w : World) (hH : Holds (Value.int .i64) w blk off zs.toArray) (hblk : blk < w.heap.size) (hsz : zs.length < 4611686018427387904) :
    Calls Try.prog 92 #[.slice (some ⟨blk, off, none⟩) zs.length cap] w fun e w' =>
      e = .returned (.tuple #[]) ∧ ∃ n os, w' = grow (putRow (Value.int .i64) (Sort.ahead w n) blk off (zs.mergeSort fun x y => decide (x ≤ y)).toArray) os := Any.slices_Sort_int Try.lays189 blk off cap zs w hH hblk hsz
def Try.lays190_ren : Go.Shelf.Ren := ⟨fun | 190 => 116 | 125 => 151 | 258 => 156 | 128 => 201 | 129 => 202 | 302 => 205 | 303 => 206 | 304 => 207 | 305 => 208 | 306 => 209 | 307 => 210 | 308 => 211 | 309 => 212 | 310 => 213 | 333 => 233 | 329 => 228 | 330 => 229 | 334 => 234 | 335 => 235 | 336 => 236 | 344 => 249 | n => n, fun | 31 => 80 | 9 => 9 | 3 => 3 | 46 => 191 | 0 => 0 | 51 => 168 | 53 => 165 | 4 => 4 | 183 => 253 | 182 => 252 | 131 => 199 | 5 => 5 | 218 => 289 | 222 => 292 | 228 => 304 | 229 => 305 | n => n, fun | n => n⟩
theorem Try.lays190 : Go.Proofs.Lays.n190 Try.prog Try.lays190_ren := {
  mixed := by kernel_rfl
  f125 := Try.func151.trans (congrArg some (by kernel_rfl))
  f128 := Try.func201.trans (congrArg some (by kernel_rfl))
  f129 := Try.func202.trans (congrArg some (by kernel_rfl))
  f190 := Try.func116.trans (congrArg some (by kernel_rfl))
  f258 := Try.func156.trans (congrArg some (by kernel_rfl))
  f302 := Try.func205.trans (congrArg some (by kernel_rfl))
  f303 := Try.func206.trans (congrArg some (by kernel_rfl))
  f304 := Try.func207.trans (congrArg some (by kernel_rfl))
  f305 := Try.func208.trans (congrArg some (by kernel_rfl))
  f306 := Try.func209.trans (congrArg some (by kernel_rfl))
  f307 := Try.func210.trans (congrArg some (by kernel_rfl))
  f308 := Try.func211.trans (congrArg some (by kernel_rfl))
  f309 := Try.func212.trans (congrArg some (by kernel_rfl))
  f310 := Try.func213.trans (congrArg some (by kernel_rfl))
  f329 := Try.func228.trans (congrArg some (by kernel_rfl))
  f330 := Try.func229.trans (congrArg some (by kernel_rfl))
  f333 := Try.func233.trans (congrArg some (by kernel_rfl))
  f334 := Try.func234.trans (congrArg some (by kernel_rfl))
  f335 := Try.func235.trans (congrArg some (by kernel_rfl))
  f336 := Try.func236.trans (congrArg some (by kernel_rfl))
  f344 := Try.func249.trans (congrArg some (by kernel_rfl))
  t0 := Try.underlying0
  a0 := Try.isAgg0
  z0 := Try.sizeOf0
  v0 := Try.zeroValue0
  t3 := Try.underlying3
  a3 := Try.isAgg3
  z3 := Try.sizeOf3
  v3 := Try.zeroValue3
  t4 := Try.underlying4
  a4 := Try.isAgg4
  z4 := Try.sizeOf4
  v4 := Try.zeroValue4
  t5 := Try.underlying5
  a5 := Try.isAgg5
  z5 := Try.sizeOf5
  v5 := Try.zeroValue5
  t9 := Try.underlying9
  a9 := Try.isAgg9
  z9 := Try.sizeOf9
  v9 := Try.zeroValue9
  t31 := Try.underlying80
  a31 := Try.isAgg80
  z31 := Try.sizeOf80
  v31 := Try.zeroValue80
  t46 := Try.underlying191
  a46 := Try.isAgg191
  z46 := Try.sizeOf191
  v46 := Try.zeroValue191
  t51 := Try.underlying168
  a51 := Try.isAgg168
  z51 := Try.sizeOf168
  v51 := Try.zeroValue168
  t53 := Try.underlying165
  a53 := Try.isAgg165
  z53 := Try.sizeOf165
  v53 := Try.zeroValue165
  t131 := Try.underlying199
  a131 := Try.isAgg199
  z131 := Try.sizeOf199
  v131 := Try.zeroValue199
  t182 := Try.underlying252
  a182 := Try.isAgg252
  z182 := Try.sizeOf252
  v182 := Try.zeroValue252
  t183 := Try.underlying253
  a183 := Try.isAgg253
  z183 := Try.sizeOf253
  v183 := Try.zeroValue253
  t218 := Try.underlying289
  a218 := Try.isAgg289
  z218 := Try.sizeOf289
  v218 := Try.zeroValue289
  t222 := Try.underlying292
  a222 := Try.isAgg292
  z222 := Try.sizeOf292
  v222 := Try.zeroValue292
  t228 := Try.underlying304
  a228 := Try.isAgg304
  z228 := Try.sizeOf304
  v228 := Try.zeroValue304
  t229 := Try.underlying305
  a229 := Try.isAgg305
  z229 := Try.sizeOf305
  v229 := Try.zeroValue305 }
open Go.Sort Go.RowKit in
theorem Try.slices_Sort_string (blk off cap : Nat) (ss : List (List UInt8)) (w : World) (hH : Holds encStr w blk off ss.toArray) (hblk : blk < w.heap.size) (hsz : ss.length < 4611686018427387904) :
    Calls Try.prog 116 #[.slice (some ⟨blk, off, none⟩) ss.length cap] w fun e w' =>
      e = .returned (.tuple #[]) ∧ ∃ n os, w' = grow (putRow encStr (Sort.ahead w n) blk off (ss.mergeSort fun x y => decide (x ≤ y)).toArray) os := Any.slices_Sort_string Try.lays190 blk off cap ss w hH hblk hsz
def Try.laysNm220_ren : Go.Shelf.Ren := ⟨fun | 20 => 93 | n => n, fun | 22 => 48 | 3 => 3 | 4 => 4 | 0 => 0 | n => n, fun | n => n⟩
theorem Try.laysNm220 : Go.Proofs.Lays2.n20 Try.prog Try.laysNm220_ren := {
  mixed := by kernel_rfl
  f20 := Try.func93.trans (congrArg some (by kernel_rfl))
  t0 := Try.underlying0
  a0 := Try.isAgg0
  z0 := Try.sizeOf0
  v0 := Try.zeroValue0
  t3 := Try.underlying3
  a3 := Try.isAgg3
  z3 := Try.sizeOf3
  v3 := Try.zeroValue3
  t4 := Try.underlying4
  a4 := Try.isAgg4
  z4 := Try.sizeOf4
  v4 := Try.zeroValue4
  t22 := Try.underlying48
  a22 := Try.isAgg48
  z22 := Try.sizeOf48
  v22 := Try.zeroValue48
  i3 := by kernel_rfl }
open Go.RowKit Go.Lib Go.Sort in
theorem Try.slices_Compact_int (blk off cap : Nat) (zs : List Int) (w : World) (hH : Holds (Value.int .i64) w blk off zs.toArray) (hsz : zs.length ≤ 9223372036854775807) (hcap : zs.length ≤ cap) :
    Calls Try.prog 93 #[.slice (some ⟨blk, off, none⟩) zs.length cap] w fun e w' => e = .returned (.slice (some ⟨blk, off, none⟩) (Lib.compact zs).length cap) ∧ ∃ q, w' = putRow (Value.int .i64) (Sort.ahead w q) blk off (Lib.compact zs ++ List.replicate (zs.length - (Lib.compact zs).length) 0).toArray := Any.slices_Compact_int Try.laysNm220 blk off cap zs w hH hsz hcap
open Go.RowKit Go.Lib Go.Sort in
theorem Try.slices_Compact_int_empty (a : Option Addr) (cap : Nat) (w : World) :
    Calls Try.prog 93 #[.slice a 0 cap] w fun e w' => e = .returned (.slice a 0 cap) ∧ w' = w := Any.slices_Compact_int_empty Try.laysNm220 a cap w
def Try.lays194_ren : Go.Shelf.Ren := ⟨fun | 194 => 117 | n => n, fun | 31 => 80 | 9 => 9 | 3 => 3 | 4 => 4 | 0 => 0 | n => n, fun | n => n⟩
theorem Try.lays194 : Go.Proofs.Lays.n194 Try.prog Try.lays194_ren := {
  mixed := by kernel_rfl
  f194 := Try.func117.trans (congrArg some (by kernel_rfl))
  t0 := Try.underlying0
  a0 := Try.isAgg0
  z0 := Try.sizeOf0
  v0 := Try.zeroValue0
  t3 := Try.underlying3
  a3 := Try.isAgg3
  z3 := Try.sizeOf3
  v3 := Try.zeroValue3
  t4 := Try.underlying4
  a4 := Try.isAgg4
  z4 := Try.sizeOf4
  v4 := Try.zeroValue4
  t9 := Try.underlying9
  a9 := Try.isAgg9
  z9 := Try.sizeOf9
  v9 := Try.zeroValue9
  t31 := Try.underlying80
  a31 := Try.isAgg80
  z31 := Try.sizeOf80
  v31 := Try.zeroValue80 }
open Go.RowKit Go.Lib Go.Sort in
theorem Try.slices_Compact_string (blk off cap : Nat) (zs : List (List UInt8)) (w : World) (hH : Holds encStr w blk off zs.toArray) (hsz : zs.length ≤ 9223372036854775807) (hcap : zs.length ≤ cap) :
    Calls Try.prog 117 #[.slice (some ⟨blk, off, none⟩) zs.length cap] w fun e w' => e = .returned (.slice (some ⟨blk, off, none⟩) (Lib.compact zs).length cap) ∧ ∃ q, w' = putRow encStr (Sort.ahead w q) blk off (Lib.compact zs ++ List.replicate (zs.length - (Lib.compact zs).length) []).toArray := Any.slices_Compact_string Try.lays194 blk off cap zs w hH hsz hcap
open Go.RowKit Go.Lib Go.Sort in
theorem Try.slices_Compact_string_empty (a : Option Addr) (cap : Nat) (w : World) :
    Calls Try.prog 117 #[.slice a 0 cap] w fun e w' => e = .returned (.slice a 0 cap) ∧ w' = w := Any.slices_Compact_string_empty Try.lays194 a cap w
end Go.Proofs
