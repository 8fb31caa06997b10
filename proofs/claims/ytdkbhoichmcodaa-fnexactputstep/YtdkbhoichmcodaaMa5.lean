/- Own texts, joined: contracts that the law's proof goes by. -/
import Derived.Test.YtdkbhoichmcodaaMa1
import Derived.Test.YtdkbhoichmcodaaMa4
import Derived.Handy
import Derived.Shelf.Strings.Builder1
import Derived.Shelf.Small.Bits
import Derived.Shelf.Strconv.Itoa0
import Derived.Shelf.LaysM
import Derived.Shelf.Strconv.Clone
import Derived.Shelf.Slices.Turned
import Derived.Test.YtdkbhoichmcodaaProg
import Derived.Shelf.SlSortCmp.WholeK
import Derived.Shelf.SlGeneric
import Derived.Ground.SlsfProg
import Derived.OwnWalk
import Derived.Lib.SmallJoins
import Derived.Deep.RegionHeld3
/- Own text. Whether a row is right: the contracts of spec.l02Row and impl.rowOk, impl.countOk, spec.l01In. -/
namespace Go.Proofs.Ytdkbhoichmcodaa
open Go.RowKit
set_option linter.unusedVariables false
/-- whether a value is right. -/
def okW (x : V3) : Bool := okB x.k x.n x.s
/-- whether a row is right, with W values. -/
def okRow (vs : List V3) (W : Int) : Bool := decide ((vs.length : Int) = W) && vs.all okW
theorem all_step {vs : List V3} {k : Nat} {x : V3} (h : vs[k]? = some x) : (vs.drop k).all okW = (okW x && (vs.drop (k + 1)).all okW) := by
  obtain ⟨hk, rfl⟩ := List.getElem?_eq_some_iff.1 h
  rw [List.drop_eq_getElem_cons hk]
  rfl
set_option maxHeartbeats 2000000 in
set_option maxRecDepth 100000 in
theorem l02Row_any (v : Value) (vs : List V3) (W : Int) (w : World) (hr : RowIs w v vs) (hw : VsWf vs) :
    Calls Try.prog 107 #[v, .int .i64 W] w fun e w' => e = .returned (.bool (okRow vs W)) ∧ Below w.heap.size w w' := by
  obtain ⟨a, c, b, o, rfl, hl, hc, ha⟩ := hr.pick
  unfold maxLen at hc
  clear hr
  go_enter Try.func107, Try.ntmps107
  go_wp2
  go_loopw [5] (fun i wr => ∃ k : Nat, k ≤ vs.length ∧ i = .int .i64 k ∧ Below w.heap.size w wr ∧ vs.all okW = (vs.drop k).all okW) (fun i _ => vs.length - (intOf i).toNat)
  case atStart => exact ⟨0, Nat.zero_le _, rfl, by go_grown, by simp⟩
  case round =>
    obtain ⟨k, hk, rfl, hb, heq⟩ := hrel
    have HE : Hid (vs.all okW = (vs.drop k).all okW) := heq
    have hzb := hb.size
    clear heq
    by_cases hlt : k < vs.length
    · obtain ⟨rfl, hblt, hL⟩ := ha k hlt
      obtain ⟨x, hx, c0, c1, c2, hbr⟩ := hL.at hblt hb hlt
      have hxs : x.s.size ≤ maxLen := (hw x (List.mem_of_getElem? hx)).2.2
      have HS : Hid ((vs.drop k).all okW = (okW x && (vs.drop (k + 1)).all okW)) := all_step hx
      clear ha hL hx hw
      by_cases hok : okB x.k x.n x.s = true
      · go_wp2_with (go_at_call 139; refine (specValueOk_any _ _ _ _ hxs).mono ?_; rintro e w1 ⟨rfl, hb1⟩)
        go_roundw
        case rel =>
          refine ⟨k + 1, hlt, by simp, by repeat (first | exact Below.refl _ _ | refine Below.drew ?_ | refine Below.alloc ?_ (by first | (simp; done) | (simp; omega) | omega) _ | refine Below.setCell ?_ (by first | (simp; done) | (simp; omega) | omega) _ | refine bstep (by assumption) (by first | (simp; done) | (simp; omega) | omega) ?_), ?_⟩
          rw [HE.out, HS.out, show okW x = true from hok, Bool.true_and]
        case measure => simp [intOf]; omega
      · go_wp2_with (go_at_call 139; refine (specValueOk_any _ _ _ _ hxs).mono ?_; rintro e w1 ⟨rfl, hb1⟩)
        go_returns
        refine ⟨ret_bool ?_, by repeat (first | exact Below.refl _ _ | refine Below.drew ?_ | refine Below.alloc ?_ (by first | (simp; done) | (simp; omega) | omega) _ | refine Below.setCell ?_ (by first | (simp; done) | (simp; omega) | omega) _ | refine bstep (by assumption) (by first | (simp; done) | (simp; omega) | omega) ?_)⟩
        have hf : okW x = false := by unfold okW; simpa using hok
        unfold okRow
        rw [HE.out, HS.out, hf]
        simp
    · clear ha hw
      go_wp2
      go_returns
      refine ⟨ret_bool ?_, hb⟩
      unfold okRow
      rw [HE.out, List.drop_eq_nil_of_le (by omega)]
      simp
      try rfl
set_option maxHeartbeats 2000000 in
set_option maxRecDepth 100000 in
theorem rowOk_any (v : Value) (vs : List V3) (W : Int) (w : World) (hr : RowIs w v vs) (hw : VsWf vs) :
    Calls Try.prog 43 #[v, .int .i64 W] w fun e w' => e = .returned (.bool (okRow vs W)) ∧ Below w.heap.size w w' := by
  obtain ⟨a, c, b, o, rfl, hl, hc, ha⟩ := hr.pick
  unfold maxLen at hc
  clear hr
  by_cases hW : (vs.length : Int) = W
  · subst hW
    go_enter Try.func43, Try.ntmps43
    go_wp2
    go_loopw [13] (fun i wr => ∃ k : Nat, k ≤ vs.length ∧ i = .int .i64 k ∧ Below w.heap.size w wr ∧ vs.all okW = (vs.drop k).all okW) (fun i _ => vs.length - (intOf i).toNat)
    case atStart => exact ⟨0, Nat.zero_le _, rfl, by go_grown, by simp⟩
    case round =>
      obtain ⟨k, hk, rfl, hb, heq⟩ := hrel
      have HE : Hid (vs.all okW = (vs.drop k).all okW) := heq
      have hzb := hb.size
      clear heq
      by_cases hlt : k < vs.length
      · obtain ⟨rfl, hblt, hL⟩ := ha k hlt
        obtain ⟨x, hx, c0, c1, c2, hbr⟩ := hL.at hblt hb hlt
        have hxs : x.s.size ≤ maxLen := (hw x (List.mem_of_getElem? hx)).2.2
        have HS : Hid ((vs.drop k).all okW = (okW x && (vs.drop (k + 1)).all okW)) := all_step hx
        clear ha hL hx hw
        by_cases hok : okB x.k x.n x.s = true
        · go_wp2_with (go_at_call 96; refine (implValueOk_any _ _ _ _ hxs).mono ?_; rintro e w1 ⟨rfl, hb1⟩; have hz1 := hb1.size; (try simp at hz1))
          go_roundw
          case rel =>
            refine ⟨k + 1, hlt, by simp, by repeat (first | exact Below.refl _ _ | refine Below.drew ?_ | refine Below.alloc ?_ (by first | (simp; done) | (simp; omega) | omega) _ | refine Below.setCell ?_ (by first | (simp; done) | (simp; omega) | omega) _ | refine bstep (by assumption) (by first | (simp; done) | (simp; omega) | omega) ?_), ?_⟩
            rw [HE.out, HS.out, show okW x = true from hok, Bool.true_and]
          case measure => simp [intOf]; omega
        · go_wp2_with (go_at_call 96; refine (implValueOk_any _ _ _ _ hxs).mono ?_; rintro e w1 ⟨rfl, hb1⟩; have hz1 := hb1.size; (try simp at hz1))
          go_returns
          refine ⟨ret_bool ?_, by repeat (first | exact Below.refl _ _ | refine Below.drew ?_ | refine Below.alloc ?_ (by first | (simp; done) | (simp; omega) | omega) _ | refine Below.setCell ?_ (by first | (simp; done) | (simp; omega) | omega) _ | refine bstep (by assumption) (by first | (simp; done) | (simp; omega) | omega) ?_)⟩
          have hf : okW x = false := by unfold okW; simpa using hok
          unfold okRow
          rw [HE.out, HS.out, hf]
          simp
      · clear ha hw
        go_wp2
        go_returns
        refine ⟨ret_bool ?_, hb⟩
        unfold okRow
        rw [HE.out, List.drop_eq_nil_of_le (by omega)]
        simp
  · go_enter Try.func43, Try.ntmps43
    go_wp2
    go_returns
    exact ⟨ret_bool (by simp [okRow, hW]), by go_grown⟩
/-- whether a count is right. -/
def okN (n : Int) : Bool := decide (n ≠ 0) && decide (-1000000000 ≤ n) && decide (n ≤ 1000000000)
set_option maxHeartbeats 1000000 in
theorem countOk_any (n : Int) (w : World) :
    Calls Try.prog 100 #[.int .i64 n] w fun e w' => e = .returned (.bool (okN n)) ∧ Below w.heap.size w w' := by
  by_cases h0 : n = 0
  · subst h0
    go_enter Try.func100, Try.ntmps100
    go_wp2
    go_returns
    exact ⟨ret_bool (by simp [okN]), by go_grown⟩
  · by_cases h1 : -1000000000 ≤ n
    · go_enter Try.func100, Try.ntmps100
      go_wp2
      go_returns
      exact ⟨ret_bool (by simp [okN, h0, h1]), by go_grown⟩
    · go_enter Try.func100, Try.ntmps100
      go_wp2
      go_returns
      exact ⟨ret_bool (by simp [okN, h0]; omega), by go_grown⟩
set_option maxHeartbeats 1000000 in
theorem l01In_any (n a b : Int) (w : World) :
    Calls Try.prog 68 #[.int .i64 n, .int .i64 a, .int .i64 b] w fun e w' => e = .returned (.bool (decide (a ≤ n) && decide (n ≤ b))) ∧ Below w.heap.size w w' := by
  by_cases h1 : a ≤ n
  · go_enter Try.func68, Try.ntmps68
    go_wp2
    go_returns
    exact ⟨ret_bool (by simp [h1]), by go_grown⟩
  · go_enter Try.func68, Try.ntmps68
    go_wp2
    go_returns
    exact ⟨ret_bool (by simp; omega), by go_grown⟩
end Go.Proofs.Ytdkbhoichmcodaa
/- The library's contracts at this program, in plain words (laid by program). -/
namespace Go.Proofs
open Go.Shelf
def Try.laysSort_ren : Go.Shelf.Ren := ⟨fun | 6 => 134 | 15 => 155 | 14 => 154 | 28 => 176 | 29 => 177 | 20 => 168 | 21 => 169 | 22 => 170 | 23 => 171 | 24 => 172 | 25 => 173 | 26 => 174 | 27 => 175 | 46 => 180 | 47 => 181 | 48 => 182 | 49 => 183 | 50 => 184 | 57 => 186 | n => n, fun | 22 => 24 | 24 => 131 | 25 => 183 | 3 => 3 | 39 => 216 | 0 => 0 | 53 => 56 | 55 => 188 | 4 => 4 | 46 => 233 | 45 => 232 | 50 => 237 | 5 => 5 | 9 => 9 | 66 => 241 | 70 => 245 | 76 => 249 | 77 => 113 | n => n, fun | n => n⟩
theorem Try.laysSort : Go.Proofs.SlLaysF0.n6 Try.prog Try.laysSort_ren := {
  mixed := by kernel_rfl
  f6 := ⟨Try.f134.name, by decide, Try.func134.trans (congrArg some (by kernel_rfl))⟩
  f14 := ⟨Try.f154.name, by decide, Try.func154.trans (congrArg some (by kernel_rfl))⟩
  f15 := Try.func155.trans (congrArg some (by kernel_rfl))
  f20 := ⟨Try.f168.name, by decide, Try.func168.trans (congrArg some (by kernel_rfl))⟩
  f21 := ⟨Try.f169.name, by decide, Try.func169.trans (congrArg some (by kernel_rfl))⟩
  f22 := ⟨Try.f170.name, by decide, Try.func170.trans (congrArg some (by kernel_rfl))⟩
  f23 := ⟨Try.f171.name, by decide, Try.func171.trans (congrArg some (by kernel_rfl))⟩
  f24 := ⟨Try.f172.name, by decide, Try.func172.trans (congrArg some (by kernel_rfl))⟩
  f25 := ⟨Try.f173.name, by decide, Try.func173.trans (congrArg some (by kernel_rfl))⟩
  f26 := ⟨Try.f174.name, by decide, Try.func174.trans (congrArg some (by kernel_rfl))⟩
  f27 := ⟨Try.f175.name, by decide, Try.func175.trans (congrArg some (by kernel_rfl))⟩
  f28 := Try.func176.trans (congrArg some (by kernel_rfl))
  f29 := Try.func177.trans (congrArg some (by kernel_rfl))
  f46 := ⟨Try.f180.name, by decide, Try.func180.trans (congrArg some (by kernel_rfl))⟩
  f47 := Try.func181.trans (congrArg some (by kernel_rfl))
  f48 := Try.func182.trans (congrArg some (by kernel_rfl))
  f49 := ⟨Try.f183.name, by decide, Try.func183.trans (congrArg some (by kernel_rfl))⟩
  f50 := ⟨Try.f184.name, by decide, Try.func184.trans (congrArg some (by kernel_rfl))⟩
  f57 := ⟨Try.f186.name, by decide, Try.func186.trans (congrArg some (by kernel_rfl))⟩
  t0 := Try.underlying0
  a0 := Try.isAgg0
  z0 := Try.sizeOf0
  v0 := Try.zeroValue0
  t3 := Try.underlying3
  a3 := Try.isAgg3
  z3 := Try.sizeOf3
  v3 := Try.zeroValue3
  t4 := Try.underlying4
  a4 := Try.isAgg4
  z4 := Try.sizeOf4
  v4 := Try.zeroValue4
  t5 := Try.underlying5
  a5 := Try.isAgg5
  z5 := Try.sizeOf5
  v5 := Try.zeroValue5
  t9 := Try.underlying9
  a9 := Try.isAgg9
  z9 := Try.sizeOf9
  v9 := Try.zeroValue9
  t22 := Try.underlying24
  a22 := Try.isAgg24
  z22 := Try.sizeOf24
  v22 := Try.zeroValue24
  t25 := Try.underlying183
  a25 := Try.isAgg183
  z25 := Try.sizeOf183
  v25 := Try.zeroValue183
  t39 := Try.underlying216
  a39 := Try.isAgg216
  z39 := Try.sizeOf216
  v39 := Try.zeroValue216
  t45 := Try.underlying232
  a45 := Try.isAgg232
  z45 := Try.sizeOf232
  v45 := Try.zeroValue232
  t46 := Try.underlying233
  a46 := Try.isAgg233
  z46 := Try.sizeOf233
  v46 := Try.zeroValue233
  t50 := Try.underlying237
  a50 := Try.isAgg237
  z50 := Try.sizeOf237
  v50 := Try.zeroValue237
  t53 := Try.underlying56
  a53 := Try.isAgg56
  z53 := Try.sizeOf56
  v53 := Try.zeroValue56
  t55 := Try.underlying188
  a55 := Try.isAgg188
  z55 := Try.sizeOf188
  v55 := Try.zeroValue188
  t66 := Try.underlying241
  a66 := Try.isAgg241
  z66 := Try.sizeOf241
  v66 := Try.zeroValue241
  t70 := Try.underlying245
  a70 := Try.isAgg245
  z70 := Try.sizeOf245
  v70 := Try.zeroValue245
  t76 := Try.underlying249
  a76 := Try.isAgg249
  z76 := Try.sizeOf249
  v76 := Try.zeroValue249
  t77 := Try.underlying113
  a77 := Try.isAgg113
  z77 := Try.sizeOf113
  v77 := Try.zeroValue113 }
def Try.lays169_ren : Go.Shelf.Ren := ⟨fun | 169 => 133 | n => n, fun | 70 => 174 | 9 => 9 | 0 => 0 | 72 => 176 | 37 => 105 | 127 => 213 | 3 => 3 | 5 => 5 | n => n, fun | n => n⟩
theorem Try.lays169 : Go.Proofs.Lays.n169 Try.prog Try.lays169_ren := {
  mixed := by kernel_rfl
  f169 := Try.func133.trans (congrArg some (by kernel_rfl))
  t0 := Try.underlying0
  a0 := Try.isAgg0
  z0 := Try.sizeOf0
  v0 := Try.zeroValue0
  t3 := Try.underlying3
  a3 := Try.isAgg3
  z3 := Try.sizeOf3
  v3 := Try.zeroValue3
  t9 := Try.underlying9
  a9 := Try.isAgg9
  z9 := Try.sizeOf9
  v9 := Try.zeroValue9
  t37 := Try.underlying105
  a37 := Try.isAgg105
  z37 := Try.sizeOf105
  v37 := Try.zeroValue105
  t70 := Try.underlying174
  a70 := Try.isAgg174
  z70 := Try.sizeOf174
  v70 := Try.zeroValue174
  t72 := Try.underlying176
  a72 := Try.isAgg176
  z72 := Try.sizeOf176
  v72 := Try.zeroValue176
  t127 := Try.underlying213
  a127 := Try.isAgg213
  z127 := Try.sizeOf213
  v127 := Try.zeroValue213 }
theorem Try.Builder_Extra_169 : Builder.Extra Try.prog Try.lays169_ren := {
  sizeBuilder := by kernel_rfl
  liesBuilder := by kernel_rfl
  t5 := Try.underlying5
  a5 := Try.isAgg5
  z5 := Try.sizeOf5
  v5 := Try.zeroValue5
  infoByte := by kernel_rfl
  cellsByte := by kernel_rfl
  sizeByte := by kernel_rfl
  neB5 := by decide }
open Go.RowKit in
theorem Try.Builder_String (B b : Nat) (l : List UInt8) (w : World) (h : Lib.IsBuilder 176 5 B b (Lib.byteCells l) w) (h0 : l ≠ []) :
    Calls Try.prog 133 #[.pointer (some ⟨b, 0, none⟩)] w fun e w' => e = .returned (.string ⟨l.toArray⟩) ∧ Below B w w' := Any.Builder_String Try.lays169 Try.Builder_Extra_169 B b l w h h0
open Go.RowKit in
theorem Try.Builder_String_any (B b : Nat) (l : List UInt8) (w : World) (h : Lib.IsBuilder 176 5 B b (Lib.byteCells l) w) (hBw : B ≤ w.heap.size) :
    Calls Try.prog 133 #[.pointer (some ⟨b, 0, none⟩)] w fun e w' => e = .returned (.string ⟨l.toArray⟩) ∧ Below B w w' := Any.Builder_String_any Try.lays169 Try.Builder_Extra_169 B b l w h hBw
def Try.laysM316_ren : Go.Shelf.Ren := ⟨fun | 316 => 164 | n => n, fun | 9 => 9 | 3 => 3 | 4 => 4 | 37 => 105 | 0 => 0 | 127 => 213 | 5 => 5 | n => n, fun | n => n⟩
theorem Try.laysM316 : Go.Proofs.LaysM.n316 Try.prog Try.laysM316_ren := {
  mixed := by kernel_rfl
  f316 := Try.func164.trans (congrArg some (by kernel_rfl))
  t0 := Try.underlying0
  a0 := Try.isAgg0
  z0 := Try.sizeOf0
  v0 := Try.zeroValue0
  t3 := Try.underlying3
  a3 := Try.isAgg3
  z3 := Try.sizeOf3
  v3 := Try.zeroValue3
  t4 := Try.underlying4
  a4 := Try.isAgg4
  z4 := Try.sizeOf4
  v4 := Try.zeroValue4
  t9 := Try.underlying9
  a9 := Try.isAgg9
  z9 := Try.sizeOf9
  v9 := Try.zeroValue9
  t37 := Try.underlying105
  a37 := Try.isAgg105
  z37 := Try.sizeOf105
  v37 := Try.zeroValue105
  t127 := Try.underlying213
  a127 := Try.isAgg213
  z127 := Try.sizeOf213
  v127 := Try.zeroValue213
  t5 := Try.underlying5
  a5 := Try.isAgg5
  z5 := Try.sizeOf5
  v5 := Try.zeroValue5
  i0 := by kernel_rfl
  i3 := by kernel_rfl
  i4 := by kernel_rfl
  i5 := by kernel_rfl
  i9 := by kernel_rfl
  i37 := by kernel_rfl
  i127 := by kernel_rfl }
open Go.RowKit in
theorem Try.stringslite_Clone (s : ByteArray) (w : World) (hlim : s.size ≤ 281474976710656) :
    Calls Try.prog 164 #[.string s] w fun e w' => e = .returned (.string s) ∧ Below w.heap.size w w' := Any.stringslite_Clone Try.laysM316 s w hlim
def Try.lays110_ren : Go.Shelf.Ren := ⟨fun | 110 => 142 | 109 => 161 | n => n, fun | 31 => 41 | 9 => 9 | 4 => 4 | 3 => 3 | 0 => 0 | n => n, fun | n => n⟩
theorem Try.lays110 : Go.Proofs.Lays.n110 Try.prog Try.lays110_ren := {
  mixed := by kernel_rfl
  f109 := Try.func161.trans (congrArg some (by kernel_rfl))
  f110 := Try.func142.trans (congrArg some (by kernel_rfl))
  t0 := Try.underlying0
  a0 := Try.isAgg0
  z0 := Try.sizeOf0
  v0 := Try.zeroValue0
  t3 := Try.underlying3
  a3 := Try.isAgg3
  z3 := Try.sizeOf3
  v3 := Try.zeroValue3
  t4 := Try.underlying4
  a4 := Try.isAgg4
  z4 := Try.sizeOf4
  v4 := Try.zeroValue4
  t9 := Try.underlying9
  a9 := Try.isAgg9
  z9 := Try.sizeOf9
  v9 := Try.zeroValue9
  t31 := Try.underlying41
  a31 := Try.isAgg41
  z31 := Try.sizeOf41
  v31 := Try.zeroValue41 }
open Go.Lib in
theorem Try.slices_Contains_string (b off n c : Nat) (zs : List ByteArray) (x : ByteArray) (w : World) (hz : n ≤ zs.length) (hbig : n ≤ 9223372036854775807) (hc : ∀ j, j < zs.length → w.cell? ⟨b, off + j, none⟩ = some (.string (zs.getD j ByteArray.empty))) :
    Calls Try.prog 142 #[.slice (some ⟨b, off, none⟩) n c, .string x] w fun e w' => e = .returned (.bool (Lib.containsS (zs.take n) x)) ∧ w' = w := Any.slices_Contains_string Try.lays110 b off n c zs x w hz hbig hc
open Go.Lib in
theorem Try.slices_Contains_string_empty (a : Option Addr) (c : Nat) (x : ByteArray) (w : World) :
    Calls Try.prog 142 #[.slice a 0 c, .string x] w fun e w' => e = .returned (.bool false) ∧ w' = w := Any.slices_Contains_string_empty Try.lays110 a c x w
end Go.Proofs
/- Own text. strings.Builder at this program: copyCheck, WriteString and String of a builder of the call's own (the library's laying of copyCheck does not fit this program's text, so it is walked here). -/
namespace Go.Proofs.Ytdkbhoichmcodaa
open Go.RowKit
set_option linter.unusedVariables false
theorem bldSize : (Try.prog.info? 176).map (·.size) = some 2 := by kernel_rfl
theorem bldLies : liesAt Try.prog Try.prog.depth 176 (2 / Try.prog.cellsOf 176) 0 176 1 = true := by kernel_rfl
theorem bldByte : (Try.prog.info? 5).map (fun i => (i.zero, i.size, i.bytes)) = some (some (.int .u8 0), 1, 1) := by kernel_rfl
set_option maxHeartbeats 1000000 in
set_option maxRecDepth 100000 in
theorem copyCheck_used (b : Nat) (w : World) (h0 : w.cell? ⟨b, 0, none⟩ = some (.pointer (some ⟨b, 0, none⟩))) :
    Calls Try.prog 152 #[.pointer (some ⟨b, 0, none⟩)] w fun e w' => e = .returned (.tuple #[]) ∧ w' = w := by
  obtain ⟨j, hj, _⟩ := Option.map_eq_some_iff.1 bldSize
  go_enter Try.func152, Try.ntmps152
  go_wp2
  rw [Lib.run_neq_ptr_same w _ Try.underlying174 hj]
  go_wp2
  go_end0
  exact ⟨rfl, rfl⟩
set_option maxHeartbeats 1000000 in
set_option maxRecDepth 100000 in
theorem copyCheck_fresh (b : Nat) (w : World) (h0 : w.cell? ⟨b, 0, none⟩ = some (.pointer none)) (hsh : w.shape? b = some (176, 2)) (hfz : w.frozen? ⟨b, 0, none⟩ = false) :
    Calls Try.prog 152 #[.pointer (some ⟨b, 0, none⟩)] w fun e w' => e = .returned (.tuple #[]) ∧ w' = w.setCell ⟨b, 0, none⟩ (.pointer (some ⟨b, 0, none⟩)) := by
  obtain ⟨j, hj, hjs⟩ := Option.map_eq_some_iff.1 bldSize
  go_enter Try.func152, Try.ntmps152
  go_wp2
  rw [Lib.run_to_unsafe w ⟨b, 0, none⟩ Try.underlying174 Try.underlying228 hj (by rw [hjs]; decide) hsh (Nat.zero_lt_succ 1)]
  simp only [Result.andThen]
  rw [Oper.upon_value]
  go_wp2
  rw [run_callFunc_extern Try.func167 (by kernel_rfl) (by kernel_rfl) (by kernel_rfl) (e := Extern.AbiNoEscape.same) (by kernel_rfl)]
  rw [Lib.run_noEscape]
  simp only [Result.andThen]
  rw [Oper.upon_value]
  go_wp2
  rw [Lib.run_from_unsafe w ⟨b, 0, none⟩ Try.underlying228 Try.underlying174 hj hsh bldLies]
  simp only [Result.andThen]
  rw [Oper.upon_value]
  go_wp2
  go_end0
  exact ⟨rfl, rfl⟩
theorem copyCheck_any (B b : Nat) (bs : List Value) (w : World) (h : Lib.IsBuilder 176 5 B b bs w) :
    Calls Try.prog 152 #[.pointer (some ⟨b, 0, none⟩)] w fun e w' => e = .returned (.tuple #[]) ∧ (Lib.BuilderAt 176 5 B b (.pointer (some ⟨b, 0, none⟩)) bs w' ∧ Below B w w') := by
  rcases h with h | h
  · refine (copyCheck_fresh b w h.cell0 h.shape h.frozen0).mono ?_
    rintro e w' ⟨rfl, rfl⟩
    exact ⟨rfl, h.used _, (Below.refl B w).setCell (p := ⟨b, 0, none⟩) h.1 _⟩
  · refine (copyCheck_used b w h.cell0).mono ?_
    rintro e w' ⟨rfl, rfl⟩
    exact ⟨rfl, h, Below.refl B _⟩
set_option maxHeartbeats 2000000 in
set_option maxRecDepth 100000 in
theorem wstr_any (B b : Nat) (bs : List Value) (s : ByteArray) (w : World) (h : Lib.IsBuilder 176 5 B b bs w) (hlen : bs.length + s.size ≤ 140737488355328) (hBw : B ≤ w.heap.size) :
    Calls Try.prog 131 #[.pointer (some ⟨b, 0, none⟩), .string s] w fun e w' => e = .returned (.tuple #[.int .i64 s.size, .nilIface]) ∧ (Lib.BuilderAt 176 5 B b (.pointer (some ⟨b, 0, none⟩)) (bs ++ Lib.strCells s) w' ∧ Below B w w') := by
  obtain ⟨i0, hi, hz0, hz1, hz2⟩ := info_parts bldByte
  go_enter Try.func131, Try.ntmps131
  go_wp2_with fail
  refine (copyCheck_any B b bs _ h).mono ?_
  rintro e w1 ⟨rfl, h1, hb1⟩
  obtain ⟨hB, v, hbk, hown, hne⟩ := h1
  have c0 : w1.cell? ⟨b, 0, none⟩ = some (.pointer (some ⟨b, 0, none⟩)) := by rw [Lib.cell_of_heap hbk]; rfl
  have c1 : w1.cell? ⟨b, 1, none⟩ = some v := by rw [Lib.cell_of_heap hbk]; rfl
  go_wp2_with (at_builtin; refine Lib.wpList_append_own_string _ rfl _ _ 105 9 rfl B 5 i0 Try.underlying105 Try.underlying9 hi hz0 hz1 hz2 _ _ _ rfl hown s rfl ?c3 ?c4 ?c5 ?_)
  case c3 => unfold maxLen; omega
  case c4 => omega
  case c5 => have := hb1.size; omega
  intro v' w2 hown' hgrow _
  have hlt : b < w1.heap.size := by
    rcases Nat.lt_or_ge b w1.heap.size with h' | h'
    · exact h'
    · simp [Array.getElem?_eq_none h'] at hbk
  have hb2 : w2.heap[b]? = some (.cells #[.pointer (some ⟨b, 0, none⟩), v] 176 (0, 0)) := (hgrow.block b hlt (fun e => hne e.symm)).trans hbk
  have d0 : w2.cell? ⟨b, 0, none⟩ = some (.pointer (some ⟨b, 0, none⟩)) := by rw [Lib.cell_of_heap hb2]; rfl
  have d1 : w2.cell? ⟨b, 1, none⟩ = some v := by rw [Lib.cell_of_heap hb2]; rfl
  have f1 : w2.frozen? ⟨b, 1, none⟩ = false := Lib.frozen_of_heap hb2 1
  have hs : ∃ ao n' cap, v' = .slice ao n' cap := by
    rcases hown'.2 with ⟨hv, _⟩ | ⟨g, cap, cur, hv, _⟩ <;> exact ⟨_, _, _, hv⟩
  obtain ⟨ao, n', cap, rfl⟩ := hs
  go_wp2
  go_ret2
  exact ⟨rfl, Lib.BuilderAt.put (T := 176) (e := 5) hB hb2 (bs' := bs ++ Lib.strCells s) (by simpa [Lib.strCells_length] using hown') (by decide),
    (hb1.grown hgrow (by have := hb1.size; omega) (fun k hk => (hown.lt k hk).1)).setCell (p := ⟨b, 1, none⟩) hB _⟩
end Go.Proofs.Ytdkbhoichmcodaa
/- Own text. The bytes of a row (rowU), and the contract of impl.rowBytes. -/
namespace Go.Proofs.Ytdkbhoichmcodaa
open Go.RowKit
set_option linter.unusedVariables false
/-- the bytes of a row. -/
def rowU (vs : List V3) : List UInt8 := vs.flatMap fun x => (putS x.k x.n x.s).data.toList
theorem rowU_take {vs : List V3} {k : Nat} {x : V3} (h : vs[k]? = some x) : rowU (vs.take (k + 1)) = rowU (vs.take k) ++ (putS x.k x.n x.s).data.toList := by
  obtain ⟨hk, rfl⟩ := List.getElem?_eq_some_iff.1 h
  unfold rowU
  rw [List.take_succ_eq_append_getElem hk, List.flatMap_append]
  simp
theorem putS_size (k n : Int) (s : ByteArray) : (putS k n s).size ≤ 102 := by
  unfold putS
  split
  · rename_i h
    split
    · rw [nums_size]; simp
    · split
      · rw [nums_size, numL_len]; omega
      · split
        · rw [nums_size]; simp
        · have h3 : k = 3 := by
            by_cases h3 : k = 3
            · exact h3
            · rw [okB_x k n s (by assumption) (by assumption) (by assumption) h3] at h; cases h
          subst h3
          have := okB_3s n s h
          rw [ByteArray.size_append, nums_size]; simp; omega
  · exact Nat.zero_le _
theorem rowU_len (vs : List V3) : (rowU vs).length ≤ 102 * vs.length := by
  induction vs with
  | nil => simp [rowU]
  | cons x xs ih =>
    have h := putS_size x.k x.n x.s
    have e : rowU (x :: xs) = (putS x.k x.n x.s).data.toList ++ rowU xs := by unfold rowU; rw [List.flatMap_cons]
    rw [e, List.length_append, List.length_cons]
    have : (putS x.k x.n x.s).data.toList.length = (putS x.k x.n x.s).size := Array.length_toList
    omega
/-- a builder of the call's own stands where nothing older is written. -/
theorem builder_below {T e : TypeId} {B b : Nat} {p : Value} {bs : List Value} {w w' : World} (h : Lib.BuilderAt T e B b p bs w) (hb : Below w.heap.size w w') : Lib.BuilderAt T e B b p bs w' := by
  obtain ⟨h0, v, h1, h2, h3⟩ := h
  have hlt : b < w.heap.size := by
    rcases Nat.lt_or_ge b w.heap.size with h' | h'
    · exact h'
    · simp [Array.getElem?_eq_none h'] at h1
  refine ⟨h0, v, (hb.block b hlt).trans h1, ⟨h2.1, ?_⟩, h3⟩
  rcases h2.2 with hn | ⟨g, cap, cur, hv, hg, hc, rest⟩
  · exact .inl hn
  · have hgl : g < w.heap.size := by
      rcases Nat.lt_or_ge g w.heap.size with h' | h'
      · exact h'
      · simp [Array.getElem?_eq_none h'] at hc
    exact .inr ⟨g, cap, cur, hv, hg, (hb.block g hgl).trans hc, rest⟩
theorem isBuilder_below {T e : TypeId} {B b : Nat} {bs : List Value} {w w' : World} (h : Lib.IsBuilder T e B b bs w) (hb : Below w.heap.size w w') : Lib.IsBuilder T e B b bs w' :=
  h.elim (fun h => .inl (builder_below h hb)) (fun h => .inr (builder_below h hb))
set_option maxHeartbeats 2000000 in
set_option maxRecDepth 100000 in
theorem rowBytes_any (v : Value) (vs : List V3) (w : World) (hr : RowIs w v vs) (hw : VsWf vs) (hn : vs.length ≤ 1048576) :
    Calls Try.prog 97 #[v] w fun e w' => e = .returned (.string ⟨(rowU vs).toArray⟩) ∧ Below w.heap.size w w' := by
  obtain ⟨a, c, b, o, rfl, hl, hc, ha⟩ := hr.pick
  unfold maxLen at hc
  clear hr
  go_enter Try.func97, Try.ntmps97
  go_wp2
  go_loopw [8] (fun i wr => ∃ k : Nat, k ≤ vs.length ∧ i = .int .i64 k ∧ Below w.heap.size w wr ∧ Lib.IsBuilder 176 5 w.heap.size w.heap.size (Lib.byteCells (rowU (vs.take k))) wr) (fun i _ => vs.length - (intOf i).toNat)
  case atStart =>
    refine ⟨0, Nat.zero_le _, rfl, by go_grown, .inl ⟨Nat.le_refl _, .slice none 0 0, ?_, ?_, by simp [Value.ownBlock]⟩⟩
    · exact heap_alloc_new w _
    · simpa [rowU, Lib.byteCells] using World.ownsRow_nil _ _ _ _
  case round =>
    obtain ⟨k, hk, rfl, hb, hB⟩ := hrel
    have hzb := hb.size
    have hsz : w.heap.size < wr.heap.size := by rcases hB with h | h <;> exact h.lt
    by_cases hlt : k < vs.length
    · obtain ⟨rfl, hblt, hL⟩ := ha k hlt
      obtain ⟨x, hx, c0, c1, c2, hbr⟩ := hL.at hblt hb hlt
      have hxs : x.s.size ≤ maxLen := (hw x (List.mem_of_getElem? hx)).2.2
      have HX : Hid (vs[k]? = some x) := hx
      have hl1 : (Lib.byteCells (rowU (vs.take k))).length + (putS x.k x.n x.s).size ≤ 140737488355328 := by
        have h1 := rowU_len (vs.take k)
        have h2 := putS_size x.k x.n x.s
        rw [Lib.byteCells_length]
        have : (vs.take k).length ≤ 1048576 := by simp; omega
        omega
      clear ha hL hx hw
      go_wp2_with (first | (go_at_call 132; refine Calls.mono (implPut_any _ _ _ _ hxs) ?_; rintro e w1 ⟨rfl, hb1⟩; have hz1 := hb1.size; (try simp at hz1)) | fail)
      have hB1 := isBuilder_below hB (w' := w1) (by repeat (first | exact Below.refl _ _ | refine Below.drew ?_ | refine Below.alloc ?_ (by first | (simp; done) | (simp; omega) | omega) _ | refine Below.setCell ?_ (by first | (simp; done) | (simp; omega) | omega) _ | refine bstep (by assumption) (by first | (simp; done) | (simp; omega) | omega) ?_))
      refine Calls.mono (wstr_any w.heap.size w.heap.size _ (putS x.k x.n x.s) w1 hB1 hl1 (by omega)) ?_
      rintro e w2 ⟨rfl, hB2, hb2⟩
      have hz2 := hb2.size
      go_wp2
      go_roundw
      case rel =>
        refine ⟨k + 1, hlt, by simp, (show Below w.heap.size w w1 from by repeat (first | exact Below.refl _ _ | refine Below.drew ?_ | refine Below.alloc ?_ (by first | (simp; done) | (simp; omega) | omega) _ | refine Below.setCell ?_ (by first | (simp; done) | (simp; omega) | omega) _ | refine bstep (by assumption) (by first | (simp; done) | (simp; omega) | omega) ?_)).trans hb2, .inr ?_⟩
        rw [rowU_take HX.out, Lib.byteCells_append, ← Lib.strCells_eq]
        exact hB2
      case measure => simp [intOf]; omega
    · clear ha hw
      obtain rfl : k = vs.length := by omega
      rw [List.take_length] at hB
      go_wp2_with fail
      refine Calls.mono (Try.Builder_String_any w.heap.size w.heap.size (rowU vs) wr hB hzb) ?_
      rintro e w1 ⟨rfl, hb1⟩
      go_wp2
      go_returns
      exact ⟨rfl, hb.trans hb1⟩
end Go.Proofs.Ytdkbhoichmcodaa
/- Own text. The contracts of both CompareValue: they answer cmpV, and write nothing that was there. -/
namespace Go.Proofs.Ytdkbhoichmcodaa
open Go.RowKit
set_option linter.unusedVariables false
def cmpI (x y : Int) : Int := if x < y then -1 else if y < x then 1 else 0
def cmpS (s t : ByteArray) : Int := if Op.bytesLess s.toList t.toList = true then -1 else if s.toList = t.toList then 0 else 1
def orI (x y z : Int) : Int := if x = 0 then (if y = 0 then z else y) else x
/-- -1, 0 or 1: how two values stand. -/
def cmpV (k n : Int) (s : ByteArray) (k' n' : Int) (s' : ByteArray) : Int := orI (cmpI k k') (cmpI n n') (cmpS s s')
set_option maxHeartbeats 1000000 in
theorem cmpInt_any (x y : Int) (w : World) :
    Calls Try.prog 137 #[.int .i64 x, .int .i64 y] w fun e w' => e = .returned (.int .i64 (cmpI x y)) ∧ w' = w := by
  rcases Int.lt_trichotomy x y with h | h | h
  · go_enter Try.func137, Try.ntmps137
    go_wp2
    go_returns
    exact ⟨by simp [cmpI, h], rfl⟩
  · subst h
    go_enter Try.func137, Try.ntmps137
    go_wp2
    go_returns
    exact ⟨by simp [cmpI], rfl⟩
  · have h' : ¬ x < y := by omega
    go_enter Try.func137, Try.ntmps137
    go_wp2
    go_returns
    exact ⟨by simp [cmpI, h, h'], rfl⟩
set_option maxHeartbeats 1000000 in
theorem cmpStr_any (x y : ByteArray) (w : World) :
    Calls Try.prog 157 #[.string x, .string y] w fun e w' => e = .returned (.int .i64 (cmpS x y)) ∧ w' = w := by
  go_enter Try.func157, Try.ntmps157
  go_wp2
  all_goals go_returns
  all_goals (refine ⟨ret_int ?_, rfl⟩; simp_all [cmpS])
set_option maxHeartbeats 1000000 in
theorem or_any (b : Nat) (x y z : Int) (w : World) (h0 : w.cell? ⟨b, 0, none⟩ = some (.int .i64 x)) (h1 : w.cell? ⟨b, 1, none⟩ = some (.int .i64 y)) (h2 : w.cell? ⟨b, 2, none⟩ = some (.int .i64 z)) :
    Calls Try.prog 156 #[.slice (some ⟨b, 0, none⟩) 3 3] w fun e w' => e = .returned (.int .i64 (orI x y z)) ∧ w' = w := by
  go_enter Try.func156, Try.ntmps156
  go_wp2
  go_rounds 4
  all_goals go_returns
  all_goals (refine ⟨ret_int ?_, rfl⟩; clear h0 h1 h2; simp_all [orI])
theorem cmpV_lt0 (k n k' n' : Int) (s s' : ByteArray) (h : k < k') : cmpV k n s k' n' s' = -1 := by simp [cmpV, cmpI, orI, h]
theorem cmpV_gt0 (k n k' n' : Int) (s s' : ByteArray) (h : k' < k) : cmpV k n s k' n' s' = 1 := by simp [cmpV, cmpI, orI, h, show ¬ k < k' from by omega]
theorem cmpV_lt1 (k n k' n' : Int) (s s' : ByteArray) (h0 : k' ≤ k) (h1 : k ≤ k') (h : n < n') : cmpV k n s k' n' s' = -1 := by simp [cmpV, cmpI, orI, h, show ¬ k < k' from by omega, show ¬ k' < k from by omega]
theorem cmpV_gt1 (k n k' n' : Int) (s s' : ByteArray) (h0 : k' ≤ k) (h1 : k ≤ k') (h : n' < n) : cmpV k n s k' n' s' = 1 := by simp [cmpV, cmpI, orI, h, show ¬ k < k' from by omega, show ¬ k' < k from by omega, show ¬ n < n' from by omega]
theorem cmpV_s (k n k' n' : Int) (s s' : ByteArray) (h0 : k' ≤ k) (h1 : k ≤ k') (h2 : n' ≤ n) (h3 : n ≤ n') : cmpV k n s k' n' s' = cmpS s s' := by simp [cmpV, cmpI, orI, show ¬ k < k' from by omega, show ¬ k' < k from by omega, show ¬ n < n' from by omega, show ¬ n' < n from by omega]
theorem cmpV_bd (k n k' n' : Int) (s s' : ByteArray) : -1 ≤ cmpV k n s k' n' s' ∧ cmpV k n s k' n' s' ≤ 1 := by
  unfold cmpV orI cmpI cmpS
  split <;> (try split) <;> (try split) <;> (try split) <;> (try split) <;> omega
set_option maxHeartbeats 1000000 in
set_option maxRecDepth 100000 in
theorem specCmp_any (k n k' n' : Int) (s s' : ByteArray) (w : World) :
    Calls Try.prog 128 #[(.agg #[.int .i64 k, .int .i64 n, .string s]), (.agg #[.int .i64 k', .int .i64 n', .string s'])] w fun e w' => e = .returned (.int .i64 (cmpV k n s k' n' s')) ∧ Below w.heap.size w w' := by
  go_enter Try.func128, Try.ntmps128
  go_wp2
  all_goals (go_returns; refine ⟨ret_int ?_, ?_⟩)
  all_goals first | (go_grown; done) | (rw [cmpV_lt0 _ _ _ _ _ _ (by assumption)]; done) | (rw [cmpV_gt0 _ _ _ _ _ _ (by assumption)]; done) | (rw [cmpV_lt1 _ _ _ _ _ _ (by assumption) (by assumption) (by assumption)]; done) | (rw [cmpV_gt1 _ _ _ _ _ _ (by assumption) (by assumption) (by assumption)]; done) | (rw [cmpV_s _ _ _ _ _ _ (by assumption) (by assumption) (by assumption) (by assumption)]; simp_all [cmpS]; done)
set_option maxHeartbeats 2000000 in
set_option maxRecDepth 100000 in
theorem implCmp_any (k n k' n' : Int) (s s' : ByteArray) (w : World) :
    Calls Try.prog 136 #[(.agg #[.int .i64 k, .int .i64 n, .string s]), (.agg #[.int .i64 k', .int .i64 n', .string s'])] w fun e w' => e = .returned (.int .i64 (cmpV k n s k' n' s')) ∧ Below w.heap.size w w' := by
  go_enter Try.func136, Try.ntmps136
  go_wp2_with fail
  go_region_held3 (fun w' => w'.cell? ⟨w.heap.size, 0, none⟩ = some (.int .i64 k) ∧ w'.cell? ⟨w.heap.size, 1, none⟩ = some (.int .i64 n) ∧ w'.cell? ⟨w.heap.size, 2, none⟩ = some (.string s) ∧ w'.cell? ⟨w.heap.size + 1, 0, none⟩ = some (.int .i64 k') ∧ w'.cell? ⟨w.heap.size + 1, 1, none⟩ = some (.int .i64 n') ∧ w'.cell? ⟨w.heap.size + 1, 2, none⟩ = some (.string s')) (go_keep) (first | (go_at_call 137; refine (cmpInt_any _ _ _).mono ?_; rintro e w' ⟨rfl, rfl⟩) | (go_at_call 157; refine (cmpStr_any _ _ _).mono ?_; rintro e w' ⟨rfl, rfl⟩) | (go_at_call 156; refine Calls.mono (or_any _ (cmpI k k') (cmpI n n') (cmpS s s') _ ?h0 ?h1 ?h2) ?hk; (case h0 => go_simp); (case h1 => go_simp); (case h2 => go_simp); rintro e w' ⟨rfl, rfl⟩))
  all_goals go_wp2
  all_goals (go_returns; refine ⟨ret_int ?_, ?_⟩)
  all_goals first | (go_grown; done) | rfl
end Go.Proofs.Ytdkbhoichmcodaa
/- Own text. The contracts of both CompareRow: they answer cmpRow, and write nothing that was there. -/
namespace Go.Proofs.Ytdkbhoichmcodaa
open Go.RowKit
set_option linter.unusedVariables false
/-- how two values stand. -/
def cmpW (x y : V3) : Int := cmpV x.k x.n x.s y.k y.n y.s
/-- -1, 0 or 1: how two rows stand. -/
def cmpRow : List V3 → List V3 → Int
  | [], [] => 0
  | [], _ :: _ => -1
  | _ :: _, [] => 1
  | x :: xs, y :: ys => if cmpW x y = 0 then cmpRow xs ys else cmpW x y
theorem cmpRow_step {vs us : List V3} {k : Nat} {x y : V3} (hx : vs[k]? = some x) (hy : us[k]? = some y) :
    cmpRow (vs.drop k) (us.drop k) = if cmpW x y = 0 then cmpRow (vs.drop (k + 1)) (us.drop (k + 1)) else cmpW x y := by
  obtain ⟨h1, rfl⟩ := List.getElem?_eq_some_iff.1 hx
  obtain ⟨h2, rfl⟩ := List.getElem?_eq_some_iff.1 hy
  rw [List.drop_eq_getElem_cons h1, List.drop_eq_getElem_cons h2]
  rfl
theorem cmpRow_end {vs us : List V3} {k : Nat} (hk : k ≤ vs.length) (hk' : k ≤ us.length) (h : ¬ (k < vs.length ∧ k < us.length)) : cmpRow (vs.drop k) (us.drop k) = cmpI vs.length us.length := by
  by_cases h1 : k < vs.length
  · have h2 : us.drop k = [] := by simp; omega
    rw [h2, List.drop_eq_getElem_cons h1]
    simp only [cmpRow, cmpI]
    rw [if_neg (by omega), if_pos (by omega)]
  · have h2 : vs.drop k = [] := by simp; omega
    rw [h2]
    by_cases h3 : k < us.length
    · rw [List.drop_eq_getElem_cons h3]
      simp only [cmpRow, cmpI]
      rw [if_pos (by omega)]
    · have h4 : us.drop k = [] := by simp; omega
      rw [h4]
      simp only [cmpRow, cmpI]
      rw [if_neg (by omega), if_neg (by omega)]
set_option maxHeartbeats 4000000 in
set_option maxRecDepth 100000 in
theorem specRow_any (v u : Value) (vs us : List V3) (w : World) (hr : RowIs w v vs) (hu : RowIs w u us) :
    Calls Try.prog 93 #[v, u] w fun e w' => e = .returned (.int .i64 (cmpRow vs us)) ∧ Below w.heap.size w w' := by
  obtain ⟨a, c, b, o, rfl, hl, hc, ha⟩ := hr.pick
  obtain ⟨a', c', b', o', rfl, hl', hc', ha'⟩ := hu.pick
  unfold maxLen at hc hc'
  clear hr hu
  go_enter Try.func93, Try.ntmps93
  go_wp2
  go_loopw [5] (fun i wr => ∃ k : Nat, k ≤ vs.length ∧ k ≤ us.length ∧ i = .int .i64 k ∧ Below w.heap.size w wr ∧ cmpRow vs us = cmpRow (vs.drop k) (us.drop k)) (fun i _ => vs.length - (intOf i).toNat)
  case atStart => exact ⟨0, Nat.zero_le _, Nat.zero_le _, rfl, by go_grown, by simp⟩
  case round =>
    obtain ⟨k, hk, hk', rfl, hb, heq⟩ := hrel
    have HE : Hid (cmpRow vs us = cmpRow (vs.drop k) (us.drop k)) := heq
    clear heq
    by_cases hlt : k < vs.length
    · by_cases hlt' : k < us.length
      · have hzb := hb.size
        obtain ⟨rfl, hblt, hL⟩ := ha k hlt
        obtain ⟨rfl, hblt', hL'⟩ := ha' k hlt'
        obtain ⟨x, hx, c0, c1, c2, hbr⟩ := hL.at hblt hb hlt
        obtain ⟨y, hy, c0', c1', c2', hbr'⟩ := hL'.at hblt' hb hlt'
        have HS : Hid (cmpRow (vs.drop k) (us.drop k) = if cmpW x y = 0 then cmpRow (vs.drop (k + 1)) (us.drop (k + 1)) else cmpW x y) := cmpRow_step hx hy
        clear ha ha' hL hL' hx hy
        go_wp2_with fail
        go_region_held3 (fun w' => w'.cell? ⟨b, o + k * 3, none⟩ = some (.int .i64 x.k) ∧ w'.cell? ⟨b, o + k * 3 + 1, none⟩ = some (.int .i64 x.n) ∧ w'.cell? ⟨b, o + k * 3 + 2, none⟩ = some (.string x.s) ∧ w'.cell? ⟨b', o' + k * 3, none⟩ = some (.int .i64 y.k) ∧ w'.cell? ⟨b', o' + k * 3 + 1, none⟩ = some (.int .i64 y.n) ∧ w'.cell? ⟨b', o' + k * 3 + 2, none⟩ = some (.string y.s)) (refine ⟨?_, ?_, ?_, ?_, ?_, ?_⟩ <;> first | (go_simp; done) | (exact cell_later (by assumption) (by go_simp))) (first | (go_at_call 128; refine (specCmp_any _ _ _ _ _ _ _).mono ?_; rintro e w1 ⟨rfl, hb1⟩))
        by_cases hz : cmpV x.k x.n x.s y.k y.n y.s = 0
        · go_wp2
          go_roundw
          case rel =>
            refine ⟨k + 1, hlt, hlt', by simp, by repeat (first | exact Below.refl _ _ | refine Below.drew ?_ | refine Below.alloc ?_ (by first | (simp; done) | (simp; omega) | omega) _ | refine Below.setCell ?_ (by first | (simp; done) | (simp; omega) | omega) _ | refine bstep (by assumption) (by first | (simp; done) | (simp; omega) | omega) ?_), ?_⟩
            rw [HE.out, HS.out, if_pos (show cmpW x y = 0 from hz)]
          case measure => simp [intOf]; omega
        · go_wp2
          go_returns
          refine ⟨ret_int ?_, by repeat (first | exact Below.refl _ _ | refine Below.drew ?_ | refine Below.alloc ?_ (by first | (simp; done) | (simp; omega) | omega) _ | refine Below.setCell ?_ (by first | (simp; done) | (simp; omega) | omega) _ | refine bstep (by assumption) (by first | (simp; done) | (simp; omega) | omega) ?_)⟩
          rw [HE.out, HS.out, if_neg (show ¬ cmpW x y = 0 from hz)]
          rfl
      · have HN : Hid (cmpRow (vs.drop k) (us.drop k) = cmpI vs.length us.length) := cmpRow_end hk hk' (by omega)
        clear ha ha'
        go_wp2
        all_goals (go_returns; refine ⟨ret_int ?_, by first | exact hb | repeat (first | exact Below.refl _ _ | refine Below.drew ?_ | refine Below.alloc ?_ (by first | (simp; done) | (simp; omega) | omega) _ | refine Below.setCell ?_ (by first | (simp; done) | (simp; omega) | omega) _ | refine bstep (by assumption) (by first | (simp; done) | (simp; omega) | omega) ?_)⟩)
        all_goals (rw [HE.out, HN.out]; try rfl)
        all_goals (unfold cmpI; first | (rw [if_pos (by omega)]; done) | (rw [if_neg (by omega), if_pos (by omega)]; done) | (rw [if_neg (by omega), if_neg (by omega)]; done))
    · have HN : Hid (cmpRow (vs.drop k) (us.drop k) = cmpI vs.length us.length) := cmpRow_end hk hk' (by omega)
      clear ha ha'
      go_wp2
      all_goals (go_returns; refine ⟨ret_int ?_, by first | exact hb | repeat (first | exact Below.refl _ _ | refine Below.drew ?_ | refine Below.alloc ?_ (by first | (simp; done) | (simp; omega) | omega) _ | refine Below.setCell ?_ (by first | (simp; done) | (simp; omega) | omega) _ | refine bstep (by assumption) (by first | (simp; done) | (simp; omega) | omega) ?_)⟩)
      all_goals (rw [HE.out, HN.out]; try rfl)
      all_goals (unfold cmpI; first | (rw [if_pos (by omega)]; done) | (rw [if_neg (by omega), if_pos (by omega)]; done) | (rw [if_neg (by omega), if_neg (by omega)]; done))
set_option maxHeartbeats 4000000 in
set_option maxRecDepth 100000 in
theorem implRow_any (v u : Value) (vs us : List V3) (w : World) (hr : RowIs w v vs) (hu : RowIs w u us) :
    Calls Try.prog 101 #[v, u] w fun e w' => e = .returned (.int .i64 (cmpRow vs us)) ∧ Below w.heap.size w w' := by
  obtain ⟨a, c, b, o, rfl, hl, hc, ha⟩ := hr.pick
  obtain ⟨a', c', b', o', rfl, hl', hc', ha'⟩ := hu.pick
  unfold maxLen at hc hc'
  clear hr hu
  go_enter Try.func101, Try.ntmps101
  go_wp2
  go_loopw [5] (fun i wr => ∃ k : Nat, k ≤ vs.length ∧ k ≤ us.length ∧ i = .int .i64 k ∧ Below w.heap.size w wr ∧ cmpRow vs us = cmpRow (vs.drop k) (us.drop k)) (fun i _ => vs.length - (intOf i).toNat)
  case atStart => exact ⟨0, Nat.zero_le _, Nat.zero_le _, rfl, by go_grown, by simp⟩
  case round =>
    obtain ⟨k, hk, hk', rfl, hb, heq⟩ := hrel
    have HE : Hid (cmpRow vs us = cmpRow (vs.drop k) (us.drop k)) := heq
    clear heq
    by_cases hlt : k < vs.length
    · by_cases hlt' : k < us.length
      · have hzb := hb.size
        obtain ⟨rfl, hblt, hL⟩ := ha k hlt
        obtain ⟨rfl, hblt', hL'⟩ := ha' k hlt'
        obtain ⟨x, hx, c0, c1, c2, hbr⟩ := hL.at hblt hb hlt
        obtain ⟨y, hy, c0', c1', c2', hbr'⟩ := hL'.at hblt' hb hlt'
        have HS : Hid (cmpRow (vs.drop k) (us.drop k) = if cmpW x y = 0 then cmpRow (vs.drop (k + 1)) (us.drop (k + 1)) else cmpW x y) := cmpRow_step hx hy
        clear ha ha' hL hL' hx hy
        go_wp2_with fail
        go_region_held3 (fun w' => w'.cell? ⟨b, o + k * 3, none⟩ = some (.int .i64 x.k) ∧ w'.cell? ⟨b, o + k * 3 + 1, none⟩ = some (.int .i64 x.n) ∧ w'.cell? ⟨b, o + k * 3 + 2, none⟩ = some (.string x.s) ∧ w'.cell? ⟨b', o' + k * 3, none⟩ = some (.int .i64 y.k) ∧ w'.cell? ⟨b', o' + k * 3 + 1, none⟩ = some (.int .i64 y.n) ∧ w'.cell? ⟨b', o' + k * 3 + 2, none⟩ = some (.string y.s)) (refine ⟨?_, ?_, ?_, ?_, ?_, ?_⟩ <;> first | (go_simp; done) | (exact cell_later (by assumption) (by go_simp))) (first | (go_at_call 136; refine (implCmp_any _ _ _ _ _ _ _).mono ?_; rintro e w1 ⟨rfl, hb1⟩))
        by_cases hz : cmpV x.k x.n x.s y.k y.n y.s = 0
        · go_wp2
          go_roundw
          case rel =>
            refine ⟨k + 1, hlt, hlt', by simp, by repeat (first | exact Below.refl _ _ | refine Below.drew ?_ | refine Below.alloc ?_ (by first | (simp; done) | (simp; omega) | omega) _ | refine Below.setCell ?_ (by first | (simp; done) | (simp; omega) | omega) _ | refine bstep (by assumption) (by first | (simp; done) | (simp; omega) | omega) ?_), ?_⟩
            rw [HE.out, HS.out, if_pos (show cmpW x y = 0 from hz)]
          case measure => simp [intOf]; omega
        · go_wp2
          go_returns
          refine ⟨ret_int ?_, by repeat (first | exact Below.refl _ _ | refine Below.drew ?_ | refine Below.alloc ?_ (by first | (simp; done) | (simp; omega) | omega) _ | refine Below.setCell ?_ (by first | (simp; done) | (simp; omega) | omega) _ | refine bstep (by assumption) (by first | (simp; done) | (simp; omega) | omega) ?_)⟩
          rw [HE.out, HS.out, if_neg (show ¬ cmpW x y = 0 from hz)]
          rfl
      · have HN : Hid (cmpRow (vs.drop k) (us.drop k) = cmpI vs.length us.length) := cmpRow_end hk hk' (by omega)
        clear ha ha'
        go_wp2_with (go_at_call 137; refine (cmpInt_any _ _ _).mono ?_; rintro e w1 ⟨rfl, rfl⟩)
        all_goals (go_returns; refine ⟨ret_int ?_, by first | exact hb | repeat (first | exact Below.refl _ _ | refine Below.drew ?_ | refine Below.alloc ?_ (by first | (simp; done) | (simp; omega) | omega) _ | refine Below.setCell ?_ (by first | (simp; done) | (simp; omega) | omega) _ | refine bstep (by assumption) (by first | (simp; done) | (simp; omega) | omega) ?_)⟩)
        all_goals (rw [HE.out, HN.out]; try rfl)
        all_goals (unfold cmpI; first | (rw [if_pos (by omega)]; done) | (rw [if_neg (by omega), if_pos (by omega)]; done) | (rw [if_neg (by omega), if_neg (by omega)]; done))
    · have HN : Hid (cmpRow (vs.drop k) (us.drop k) = cmpI vs.length us.length) := cmpRow_end hk hk' (by omega)
      clear ha ha'
      go_wp2_with (go_at_call 137; refine (cmpInt_any _ _ _).mono ?_; rintro e w1 ⟨rfl, rfl⟩)
      all_goals (go_returns; refine ⟨ret_int ?_, by first | exact hb | repeat (first | exact Below.refl _ _ | refine Below.drew ?_ | refine Below.alloc ?_ (by first | (simp; done) | (simp; omega) | omega) _ | refine Below.setCell ?_ (by first | (simp; done) | (simp; omega) | omega) _ | refine bstep (by assumption) (by first | (simp; done) | (simp; omega) | omega) ?_)⟩)
      all_goals (rw [HE.out, HN.out]; try rfl)
      all_goals (unfold cmpI; first | (rw [if_pos (by omega)]; done) | (rw [if_neg (by omega), if_pos (by omega)]; done) | (rw [if_neg (by omega), if_neg (by omega)]; done))
end Go.Proofs.Ytdkbhoichmcodaa
