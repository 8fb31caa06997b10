/- Own texts, joined: contracts that the law's proof goes by. -/
import Derived.Test.YtdkbhoichmcodaaMa1
import Derived.Lib.SmallJoins
import Derived.Handy
import Derived.Deep.RegionHeld3
import Derived.Laws.AppendOwnNone
import Derived.Deep.AppendLies
/- Own text. A step as it lies in memory: five cells, two of them lists; how it is read off what came in; what it weighs. -/
namespace Go.Proofs.Ytdkbhoichmcodaa
open Go.RowKit Go.Deep Go.ChangeShapes Go.WideShapes Go.Joins
set_option linter.unusedVariables false
/-- a step: its kind, its name, its columns, its question, its change. -/
structure T5 where
  k : Int
  s : ByteArray
  cs : List ByteArray
  q : ByteArray
  rs : List R3
def T5.wf (x : T5) : Prop := (Lit.int .i64 x.k).wf = true ∧ x.s.size ≤ maxLen ∧ SsWf x.cs ∧ x.q.size ≤ maxLen ∧ RsWf x.rs
/-- the two lists of a step lie at these slices. -/
def StpIs (w : World) (uc ur : Value) (x : T5) : Prop := (∃ g, StrsF w uc x.cs g) ∧ RelsIs w ur x.rs
theorem StpIs.below {w w' : World} {uc ur : Value} {x : T5} (h : StpIs w uc ur x) (hb : Below w.heap.size w w') : StpIs w' uc ur x := by
  obtain ⟨⟨g, h0⟩, h1⟩ := h
  exact ⟨⟨g, h0.below hb⟩, h1.below hb⟩
theorem StpIs.shape {w : World} {uc ur : Value} {x : T5} (h : StpIs w uc ur x) : (∃ a c, uc = .slice a x.cs.length c ∧ x.cs.length ≤ c ∧ c ≤ maxLen) ∧ ∃ a c, ur = .slice a x.rs.length c ∧ x.rs.length ≤ c ∧ c ≤ maxLen := by
  obtain ⟨⟨g, h0⟩, h1⟩ := h
  obtain ⟨a, c, e, hl, hm, _⟩ := h1
  exact ⟨h0.shape, a, c, e, hl, hm⟩
/-- what a step weighs. -/
def wtT (x : T5) : Nat := x.s.size + (x.cs.length + wtSs x.cs) + x.q.size + wtR x.rs
theorem cellsStp : Try.prog.cellsOf 43 = 5 := by kernel_rfl
theorem cellsI1 : Try.prog.cellsOf 3 = 1 := by kernel_rfl
theorem cellsS1 : Try.prog.cellsOf 9 = 1 := by kernel_rfl
theorem cellsSs1 : Try.prog.cellsOf 41 = 1 := by kernel_rfl
theorem cellsRs1 : Try.prog.cellsOf 35 = 1 := by kernel_rfl
section
variable {H : Type} {enc : TypeId × Value → H} {w : World} {spare : Nat → Bool} {held : Bool}
set_option maxRecDepth 100000 in
theorem open_step {r : Reach} {b0 : Nat} {v : Value} {d : DataW H} {ps : List MemPlace} (hv : Value.okWide Try.prog w r b0 43 v) (h : DataW.Trod enc Try.prog w 0 spare held 43 v d ps) :
    ∃ (x : T5) (uc ur : Value), v = (.agg #[.int .i64 x.k, .string x.s, uc, .string x.q, ur]) ∧ x.wf ∧ StpIs w uc ur x := by
  obtain ⟨⟨cs⟩, rfl, hsz⟩ := okWide_struct Try.underlying43 hv
  obtain ⟨fuel, hf⟩ := h
  have hs5 : cs.length = 5 := by have := hsz.trans cellsStp; simpa using this
  match cs, hs5 with
  | [z0, z1, z2, z3, z4], _ =>
    obtain ⟨xs, k, hk, _, _, hxl, hfld⟩ := DataW.trod_struct Try.underlying43 hf
    match xs, hxl with
    | [y0, y1, y2, y3, y4], _ =>
      have a0 := hfld 0 _ rfl
      have a1 := hfld 1 _ rfl
      have a2 := hfld 2 _ rfl
      have a3 := hfld 3 _ rfl
      have a4 := hfld 4 _ rfl
      simp [cellsI1, cellsS1, cellsSs1, cellsRs1, Value.cells] at a0 a1 a2 a3 a4
      obtain ⟨n0, q0, _, w0⟩ := DataW.trod_int Try.underlying3 a0
      obtain ⟨n1, q1, _, w1⟩ := DataW.trod_string Try.underlying9 a1
      obtain ⟨n3, q3, _, w3⟩ := DataW.trod_string Try.underlying9 a3
      simp at q0 q1 q3
      subst q0 q1 q3
      obtain ⟨e2, g2, k2, w2⟩ := open_strs Try.underlying41 Try.underlying9 cellsS1 a2
      obtain ⟨rs, kr, wr⟩ := open_rels Try.underlying35 Try.underlying82 (by kernel_rfl) rfl rfl (by kernel_rfl) (by kernel_rfl) Try.underlying9 Try.underlying80 rfl rfl (by kernel_rfl) (by kernel_rfl) Try.underlying3 Try.underlying78 Try.underlying221 (by kernel_rfl) rfl rfl (by kernel_rfl) (by kernel_rfl) Try.underlying62 Try.underlying3 Try.underlying128 (by kernel_rfl) rfl rfl rfl (by kernel_rfl) (by kernel_rfl) (by kernel_rfl) Try.underlying3 Try.underlying3 Try.underlying9 a4
      exact ⟨⟨n0, n1, e2, n3, rs⟩, z2, z4, rfl, ⟨w0, w1, w2, w3, wr⟩, ⟨g2, k2⟩, kr⟩
end
end Go.Proofs.Ytdkbhoichmcodaa
/- Own text. The contracts of the helpers on relations: how much they weigh, that they are the same as others. -/
namespace Go.Proofs.Ytdkbhoichmcodaa
open Go.RowKit
set_option linter.unusedVariables false
set_option maxHeartbeats 1000000 in
theorem szRel_any (s : ByteArray) (W : Int) (v : Value) (cs : List C2) (left : Int) (w : World) (hs : s.size ≤ maxLen) (hr : RowsIs w v cs) (hw : CsWf cs) (h0 : 0 ≤ left) (h1 : left ≤ 1048576) :
    Calls Try.prog 52 #[.agg #[.string s, .int .i64 W, v], .int .i64 left] w fun e w' => (∃ z : Int, e = .returned (.int .i64 z) ∧ -1 ≤ z ∧ z ≤ left ∧ (0 ≤ z → z + (s.size + wtb cs) = left)) ∧ Below w.heap.size w w' := by
  unfold maxLen at hs
  by_cases hbig : left - s.size < 0
  · go_enter Try.func52, Try.ntmps52
    go_wp2_with fail
    go_returns
    exact ⟨⟨-1, rfl, by omega, by omega, by omega⟩, by repeat (first | exact Below.refl _ _ | refine Below.drew ?_ | refine Below.alloc ?_ (by first | (simp; done) | (simp; omega) | omega) _ | refine Below.setCell ?_ (by first | (simp; done) | (simp; omega) | omega) _ | refine bstep (by assumption) (by first | (simp; done) | (simp; omega) | omega) ?_)⟩
  obtain ⟨a, l, c, rfl⟩ := hr.shape
  go_enter Try.func52, Try.ntmps52
  go_wp2_with fail
  refine Calls.mono (szBag_any W (.slice a l c) cs (left - s.size) _ (hr.below ?hb) hw (by omega) (by omega)) ?_
  case hb => repeat (first | exact Below.refl _ _ | refine Below.drew ?_ | refine Below.alloc ?_ (by first | (simp; done) | (simp; omega) | omega) _ | refine Below.setCell ?_ (by first | (simp; done) | (simp; omega) | omega) _ | refine bstep (by assumption) (by first | (simp; done) | (simp; omega) | omega) ?_)
  rintro e w1 ⟨⟨z1, rfl, l1, g1, s1⟩, hb1⟩
  have hz1 := hb1.size
  simp only [World.size_alloc] at hz1
  by_cases hn1 : z1 < 0
  · go_wp2_with fail
    go_returns
    exact ⟨⟨-1, rfl, by omega, by omega, by omega⟩, by repeat (first | exact Below.refl _ _ | refine Below.drew ?_ | refine Below.alloc ?_ (by first | (simp; done) | (simp; omega) | omega) _ | refine Below.setCell ?_ (by first | (simp; done) | (simp; omega) | omega) _ | refine bstep (by assumption) (by first | (simp; done) | (simp; omega) | omega) ?_)⟩
  · go_wp2_with fail
    go_returns
    exact ⟨⟨z1, rfl, by omega, by omega, fun h => by have := s1 h; omega⟩, by repeat (first | exact Below.refl _ _ | refine Below.drew ?_ | refine Below.alloc ?_ (by first | (simp; done) | (simp; omega) | omega) _ | refine Below.setCell ?_ (by first | (simp; done) | (simp; omega) | omega) _ | refine bstep (by assumption) (by first | (simp; done) | (simp; omega) | omega) ?_)⟩
set_option maxHeartbeats 2000000 in
set_option maxRecDepth 100000 in
theorem szRelS_any (v : Value) (rs : List R3) (left : Int) (w : World) (hr : RelsIs w v rs) (hw : RsWf rs) (h0 : 0 ≤ left) (h1 : left ≤ 1048576) :
    Calls Try.prog 19 #[v, .int .i64 left] w fun e w' => (∃ z : Int, e = .returned (.int .i64 z) ∧ -1 ≤ z ∧ z ≤ left ∧ (0 ≤ z → z + wtR rs = left)) ∧ Below w.heap.size w w' := by
  obtain ⟨a, c, b, o, rfl, hl, hc, ha⟩ := hr.pick
  unfold maxLen at hc
  by_cases hbig : left - rs.length < 0
  · go_enter Try.func19, Try.ntmps19
    go_wp2
    go_returns
    exact ⟨⟨-1, rfl, by omega, by omega, by omega⟩, by go_grown⟩
  go_enter Try.func19, Try.ntmps19
  go_wp2
  go_loopw [1, 5] (fun l i wr => ∃ k : Nat, k ≤ rs.length ∧ i = .int .i64 k ∧ l = .int .i64 (left - rs.length - wtrs (rs.take k)) ∧ 0 ≤ left - rs.length - wtrs (rs.take k) ∧ Below w.heap.size w wr) (fun _ i _ => rs.length - (intOf i).toNat)
  case atStart => exact ⟨0, Nat.zero_le _, rfl, by simp [wtrs], by simp [wtrs]; omega, by go_grown⟩
  case round =>
    obtain ⟨k, hk, rfl, rfl, hp, hb⟩ := hrel
    by_cases hlt : k < rs.length
    · have hzb := hb.size
      obtain ⟨rfl, hblt, hL⟩ := ha k hlt
      obtain ⟨x, u, hx, c0, c1, c2, hR, hbr⟩ := hL.at hblt hb hlt
      obtain ⟨hxs, _, hxw⟩ := hw x (List.mem_of_getElem? hx)
      have hT : Hid (wtrs (rs.take (k + 1)) = wtrs (rs.take k) + wtr x) := wtrs_take hx
      have hp1 : left - rs.length - wtrs (rs.take k) ≤ 1048576 := by omega
      clear ha hL hw hx
      go_wp2_with (go_at_call 52; refine (szRel_any _ _ _ _ _ _ hxs hR hxw hp hp1).mono ?_; rintro e w1 ⟨⟨z1, rfl, l1, g1, s1⟩, hb1⟩)
      · go_returns
        exact ⟨⟨-1, rfl, by omega, by omega, by omega⟩, hb.trans (hb1.mono hb.size)⟩
      · have h9 : 0 ≤ z1 := by assumption
        have e1 := s1 h9
        have hT := hT.out
        unfold wtr at hT
        refine ⟨⟨k + 1, hlt, by simp, by congr 1; omega, by omega, hb.trans (hb1.mono hb.size)⟩, by simp [intOf]; omega⟩
    · go_wp2
      go_returns
      have hkk : k = rs.length := by omega
      subst hkk
      refine ⟨⟨_, rfl, by omega, by omega, fun _ => ?_⟩, hb⟩
      rw [List.take_length]; unfold wtR; omega
set_option maxHeartbeats 1000000 in
theorem eqRel_same (s : ByteArray) (W : Int) (v u : Value) (cs : List C2) (w : World) (hr : RowsIs w v cs) (hu : RowsIs w u cs) :
    Calls Try.prog 64 #[.agg #[.string s, .int .i64 W, v], .agg #[.string s, .int .i64 W, u]] w fun e w' => e = .returned (.bool true) ∧ Below w.heap.size w w' := by
  obtain ⟨a, l, c, rfl⟩ := hr.shape
  obtain ⟨a', l', c', rfl⟩ := hu.shape
  go_enter Try.func64, Try.ntmps64
  go_wp2_with fail
  refine Calls.mono (eqBag_same W _ _ cs _ (hr.below ?hb) (hu.below ?hc)) ?_
  case hb => repeat (first | exact Below.refl _ _ | refine Below.drew ?_ | refine Below.alloc ?_ (by first | (simp; done) | (simp; omega) | omega) _ | refine Below.setCell ?_ (by first | (simp; done) | (simp; omega) | omega) _ | refine bstep (by assumption) (by first | (simp; done) | (simp; omega) | omega) ?_)
  case hc => repeat (first | exact Below.refl _ _ | refine Below.drew ?_ | refine Below.alloc ?_ (by first | (simp; done) | (simp; omega) | omega) _ | refine Below.setCell ?_ (by first | (simp; done) | (simp; omega) | omega) _ | refine bstep (by assumption) (by first | (simp; done) | (simp; omega) | omega) ?_)
  rintro e w1 ⟨rfl, hb1⟩
  have hz1 := hb1.size
  simp only [World.size_alloc] at hz1
  go_wp2
  go_returns
  exact ⟨rfl, by repeat (first | exact Below.refl _ _ | refine Below.drew ?_ | refine Below.alloc ?_ (by first | (simp; done) | (simp; omega) | omega) _ | refine Below.setCell ?_ (by first | (simp; done) | (simp; omega) | omega) _ | refine bstep (by assumption) (by first | (simp; done) | (simp; omega) | omega) ?_)⟩
set_option maxHeartbeats 2000000 in
set_option maxRecDepth 100000 in
theorem eqRelS_same (v u : Value) (rs : List R3) (w : World) (hr : RelsIs w v rs) (hu : RelsIs w u rs) :
    Calls Try.prog 23 #[v, u] w fun e w' => e = .returned (.bool true) ∧ Below w.heap.size w w' := by
  obtain ⟨a, c, b, o, rfl, hl, hc, ha⟩ := hr.pick
  obtain ⟨a', c', b', o', rfl, hl', hc', ha'⟩ := hu.pick
  unfold maxLen at hc hc'
  clear hr hu
  go_enter Try.func23, Try.ntmps23
  go_wp2
  go_loopw [5] (fun i wr => ∃ k : Nat, k ≤ rs.length ∧ i = .int .i64 k ∧ Below w.heap.size w wr) (fun i _ => rs.length - (intOf i).toNat)
  case atStart => exact ⟨0, Nat.zero_le _, rfl, by go_grown⟩
  case round =>
    obtain ⟨k, hk, rfl, hb⟩ := hrel
    by_cases hlt : k < rs.length
    · have hzb := hb.size
      obtain ⟨rfl, hblt, hL⟩ := ha k hlt
      obtain ⟨rfl, hblt', hL'⟩ := ha' k hlt
      obtain ⟨x, v, hx, c0, c1, c2, hR, hbr⟩ := hL.at hblt hb hlt
      obtain ⟨x', u, hx', c0', c1', c2', hR', hbr'⟩ := hL'.at hblt' hb hlt
      obtain rfl : x = x' := by rw [hx] at hx'; exact Option.some.inj hx'
      clear ha ha' hL hL' hx hx'
      go_wp2_with fail
      go_region_held3 (fun w' => w'.cell? ⟨b, o + k * 3, none⟩ = some (.string x.s) ∧ w'.cell? ⟨b, o + k * 3 + 1, none⟩ = some (.int .i64 x.W) ∧ w'.cell? ⟨b, o + k * 3 + 2, none⟩ = some v ∧ w'.cell? ⟨b', o' + k * 3, none⟩ = some (.string x.s) ∧ w'.cell? ⟨b', o' + k * 3 + 1, none⟩ = some (.int .i64 x.W) ∧ w'.cell? ⟨b', o' + k * 3 + 2, none⟩ = some u) (refine ⟨?_, ?_, ?_, ?_, ?_, ?_⟩ <;> first | (go_simp; done) | (exact cell_later (by assumption) (by go_simp))) (first | (go_at_call 64; refine (eqRel_same x.s x.W v u x.cs _ (hR.below (by repeat (first | exact Below.refl _ _ | refine Below.drew ?_ | refine Below.alloc ?_ (by first | (simp; done) | (simp; omega) | omega) _ | refine Below.setCell ?_ (by first | (simp; done) | (simp; omega) | omega) _ | refine bstep (by assumption) (by first | (simp; done) | (simp; omega) | omega) ?_))) (hR'.below (by repeat (first | exact Below.refl _ _ | refine Below.drew ?_ | refine Below.alloc ?_ (by first | (simp; done) | (simp; omega) | omega) _ | refine Below.setCell ?_ (by first | (simp; done) | (simp; omega) | omega) _ | refine bstep (by assumption) (by first | (simp; done) | (simp; omega) | omega) ?_)))).mono ?_; rintro e w1 ⟨rfl, hb1⟩))
      go_wp2
      go_roundw
      case rel => exact ⟨k + 1, hlt, by simp, by repeat (first | exact Below.refl _ _ | refine Below.drew ?_ | refine Below.alloc ?_ (by first | (simp; done) | (simp; omega) | omega) _ | refine Below.setCell ?_ (by first | (simp; done) | (simp; omega) | omega) _ | refine bstep (by assumption) (by first | (simp; done) | (simp; omega) | omega) ?_)⟩
      case measure => simp [intOf]; omega
    · go_wp2
      go_returns
      exact ⟨rfl, hb⟩
end Go.Proofs.Ytdkbhoichmcodaa
/- Own text. The contract of toBag: a new bag with the same rows, all of it in memory of the call's own. -/
namespace Go.Proofs.Ytdkbhoichmcodaa
open Go.RowKit Go.Deep
set_option linter.unusedVariables false
theorem Try.infoCnt : (Try.prog.info? 131).map (fun i => (i.zero, i.size, i.bytes)) = some (some (.agg #[.slice none 0 0, .int .i64 0]), 2, 32) := by kernel_rfl
/-- counted rows of the call's own: block B0 has the rows' heads, g i is row i's own block; the first k are laid. -/
structure HalfB (w : World) (B0 : Nat) (cs : List C2) (g : Nat → Nat) (k : Nat) : Prop where
  own : ∃ f, w.rowIs B0 131 (cs.length * 2) f ∧ ∀ i x, i < k → cs[i]? = some x → f (i * 2) = .slice (some ⟨g i, 0, none⟩) x.r.length x.r.length ∧ f (i * 2 + 1) = .int .i64 x.n
  row : ∀ i x, i < k → cs[i]? = some x → w.rowIs (g i) 133 (x.r.length * 3) (cf x.r)
  above : ∀ i, i < k → B0 < g i
  up : ∀ i j, i < j → j < k → g i < g j
theorem HalfB.cells {w : World} {B : Nat} {cs : List C2} {g : Nat → Nat} {k : Nat} (h : HalfB w B cs g k) (hk : k < cs.length) :
    (∃ u, w.cell? ⟨B, k * 2, none⟩ = some u) ∧ (∃ u, w.cell? ⟨B, k * 2 + 1, none⟩ = some u) ∧ (∀ i, w.frozen? ⟨B, i, none⟩ = false) ∧ B < w.heap.size := by
  obtain ⟨f, h, _⟩ := h.own
  exact ⟨⟨_, h.cell (by omega)⟩, ⟨_, h.cell (by omega)⟩, fun i => h.frozen i, h.lt⟩
theorem HalfB.lt {w : World} {B : Nat} {cs : List C2} {g : Nat → Nat} {k : Nat} (h : HalfB w B cs g k) (hk : k ≤ cs.length) {i : Nat} (hi : i < k) : g i < w.heap.size := (h.row i cs[i] hi (by simp)).lt
theorem HalfB.below {w w' : World} {B : Nat} {cs : List C2} {g : Nat → Nat} {k : Nat} (h : HalfB w B cs g k) (hk : k ≤ cs.length) (hb : Below w.heap.size w w') : HalfB w' B cs g k := by
  obtain ⟨⟨f, hf, he⟩, h1, h2, h3⟩ := h
  exact ⟨⟨f, hf.of_block (hb.block _ hf.lt), he⟩, fun i x hi hx => (h1 i x hi hx).of_block (hb.block _ (h1 i x hi hx).lt), h2, h3⟩
theorem HalfB.keep {w w' : World} {B : Nat} {cs : List C2} {g : Nat → Nat} {k : Nat} (h : HalfB w B cs g k) (hk : k ≤ cs.length) (e : ∀ b, B ≤ b → w'.heap[b]? = w.heap[b]?) : HalfB w' B cs g k := by
  obtain ⟨⟨f, hf, he⟩, h1, h2, h3⟩ := h
  exact ⟨⟨f, hf.of_block (e _ (Nat.le_refl _)), he⟩, fun i x hi hx => (h1 i x hi hx).of_block (e _ (Nat.le_of_lt (h2 i hi))), h2, h3⟩
theorem HalfB.step {w : World} {B D : Nat} {cs : List C2} {g : Nat → Nat} {k : Nat} {x : C2} (h : HalfB w B cs g k) (hx : cs[k]? = some x) (hD : w.rowIs D 133 (x.r.length * 3) (cf x.r)) (hB : B < D) (hup : ∀ i, i < k → g i < D) :
    HalfB ((w.setCell ⟨B, k * 2, none⟩ (.slice (some ⟨D, 0, none⟩) x.r.length x.r.length)).setCell ⟨B, k * 2 + 1, none⟩ (.int .i64 x.n)) B cs (fun i => if i = k then D else g i) (k + 1) := by
  obtain ⟨⟨f, hf, he⟩, h1, h2, h3⟩ := h
  refine ⟨⟨_, (hf.set _ _).set _ _, fun i y hi hy => ?_⟩, fun i y hi hy => ?_, fun i hi => ?_, fun i j hij hj => ?_⟩
  · by_cases e : i = k
    · subst e
      obtain rfl : y = x := by rw [hx] at hy; exact (Option.some.inj hy).symm
      simp
    · have e1 : i * 2 ≠ k * 2 := by omega
      have e2 : i * 2 ≠ k * 2 + 1 := by omega
      have e3 : i * 2 + 1 ≠ k * 2 := by omega
      have e4 : i * 2 + 1 ≠ k * 2 + 1 := by omega
      simp only [if_neg e1, if_neg e2, if_neg e3, if_neg e4, if_neg e]
      exact he i y (by omega) hy
  · by_cases e : i = k
    · subst e
      obtain rfl : y = x := by rw [hx] at hy; exact (Option.some.inj hy).symm
      simp only [if_true]
      exact (hD.setOther (by show D ≠ B; omega) _).setOther (by show D ≠ B; omega) _
    · simp only [if_neg e]
      have := h2 i (by omega)
      exact ((h1 i y (by omega) hy).setOther (by show g i ≠ B; omega) _).setOther (by show g i ≠ B; omega) _
  · by_cases e : i = k
    · simp only [if_pos e]; exact hB
    · simp only [if_neg e]; exact h2 i (by omega)
  · by_cases e : j = k
    · have e' : i ≠ k := by omega
      simp only [if_pos e, if_neg e']; exact hup i (by omega)
    · have e' : i ≠ k := by omega
      simp only [if_neg e, if_neg e']; exact h3 i j hij (by omega)
theorem HalfB.rows {w : World} {B : Nat} {cs : List C2} {g : Nat → Nat} (h : HalfB w B cs g cs.length) (hl : ∀ x ∈ cs, x.r.length ≤ maxLen) (hm : cs.length ≤ maxLen) : RowsIs w (.slice (some ⟨B, 0, none⟩) cs.length cs.length) cs := by
  obtain ⟨f, hf, he⟩ := h.own
  refine ⟨_, _, rfl, Nat.le_refl _, hm, fun _ => ⟨B, 0, rfl, hf.lt, fun i x hx => ?_⟩⟩
  have hi : i < cs.length := (List.getElem?_eq_some_iff.1 hx).1
  obtain ⟨e0, e1⟩ := he i x hi hx
  refine ⟨_, by rw [Nat.zero_add, hf.cell (by omega), e0], rowIs_row (h.row i x hi hx) (Nat.le_refl _) (hl x (List.mem_of_getElem? hx)), by rw [Nat.zero_add, hf.cell (by omega), e1]⟩
theorem halfB_made (w : World) (z : Array Value) (cs : List C2) (g : Nat → Nat) : HalfB (w.alloc (.cells (madeCells z (cs.length * 2)) 131)) w.heap.size cs g 0 :=
  ⟨⟨fun i => (madeCells z (cs.length * 2))[i]?.getD undef, ⟨_, blk_alloc_new _ _, size_madeCells _ _, fun i hi => by
    have : i < (madeCells z (cs.length * 2)).size := by rw [size_madeCells]; exact hi
    simp [this]⟩, fun i x hi => by omega⟩, fun i x hi => by omega, fun i hi => by omega, fun i j _ hj => by omega⟩
set_option maxHeartbeats 1000000 in
theorem toCounted_any (v : Value) (r : List V3) (n : Int) (w : World) (hr : RowIs w v r) (hn : r.length ≤ 1048576) :
    Calls Try.prog 160 #[.agg #[v, .int .i64 n]] w fun e w' => (∃ B, w.heap.size ≤ B ∧ e = .returned (.agg #[.slice (some ⟨B, 0, none⟩) r.length r.length, .int .i64 n]) ∧ w'.rowIs B 133 (r.length * 3) (cf r)) ∧ Below w.heap.size w w' := by
  have hb0 : ∀ o p q, Below w.heap.size w (((w.alloc o).alloc p).alloc q) := fun o p q => (((Below.refl _ _).alloc (Nat.le_refl _) o).alloc (by simp) p).alloc (by simp; omega) q
  go_enter Try.func160, Try.ntmps160
  go_wp2_with fail
  refine (toValueS_any v r _ (hr.below (hb0 _ _ _)) hn).mono ?_
  rintro e w1 ⟨rfl, hR1, hb1⟩
  have hz1 := hb1.size
  simp only [World.size_alloc] at hz1 hR1
  have hf1 := (bcell hb1).2
  have hy : w.heap.size + 1 + 1 < w1.heap.size := by omega
  have hy1 : w.heap.size + 1 < w1.heap.size := by omega
  have hy0 : w.heap.size < w1.heap.size := by omega
  have q0 : w1.cell? ⟨w.heap.size, 1, none⟩ = some (.int .i64 n) := cell_later hb1 (by go_simp)
  have p0 : w1.cell? ⟨w.heap.size + 1, 0, none⟩ = some (.slice none 0 0) := cell_later hb1 (by go_simp)
  have p1 : w1.cell? ⟨w.heap.size + 1, 1, none⟩ = some (.int .i64 0) := cell_later hb1 (by go_simp)
  have t0 : w1.cell? ⟨w.heap.size + 1 + 1, 0, none⟩ = some (.slice none 0 0) := cell_later hb1 (by go_simp)
  have t1 : w1.cell? ⟨w.heap.size + 1 + 1, 1, none⟩ = some (.int .i64 0) := cell_later hb1 (by go_simp)
  go_wp2
  refine bodyPost_ret (v := .agg #[.slice (some ⟨w.heap.size + 1 + 1 + 1, 0, none⟩) r.length r.length, .int .i64 n]) (by simp [results, Try.results160, go_sem, *]) rfl ⟨⟨w.heap.size + 1 + 1 + 1, by omega, rfl, ?_⟩, ?_⟩
  · refine hR1.of_block ?_
    repeat rw [Below.heap_setCell _ _ _ _ (by simp; try omega)]
  · repeat (first | exact Below.refl _ _ | refine Below.drew ?_ | refine Below.alloc ?_ (by first | (simp; done) | (simp; omega) | omega) _ | refine Below.setCell ?_ (by first | (simp; done) | (simp; omega) | omega) _ | refine bstep (by assumption) (by first | (simp; done) | (simp; omega) | omega) ?_)
set_option maxHeartbeats 2000000 in
set_option maxRecDepth 100000 in
theorem toCountedS_any (v : Value) (cs : List C2) (w : World) (hr : RowsIs w v cs) (hn : wtb cs ≤ 1048576) :
    Calls Try.prog 140 #[v] w fun e w' => (∃ g, e = .returned (.slice (some ⟨w.heap.size, 0, none⟩) cs.length cs.length) ∧ HalfB w' w.heap.size cs g cs.length) ∧ Below w.heap.size w w' := by
  obtain ⟨a, c, b, o, rfl, hl, hc, ha⟩ := hr.pick
  unfold maxLen at hc
  clear hr
  have hn1 : cs.length ≤ 1048576 := by unfold wtb at hn; omega
  have hmk := run_make_wide (P := Try.prog) 24 131 _ 2 32 Try.underlying24 Try.infoCnt cs.length (by omega) (by omega)
  go_enter Try.func140, Try.ntmps140
  go_wp2
  go_loopw [4] (fun i wr => ∃ (k : Nat) (g : Nat → Nat), k ≤ cs.length ∧ i = .int .i64 k ∧ Below w.heap.size w wr ∧ HalfB wr w.heap.size cs g k) (fun i _ => cs.length - (intOf i).toNat)
  case atStart => exact ⟨0, fun _ => 0, Nat.zero_le _, rfl, by go_grown, halfB_made _ _ _ _⟩
  case round =>
    obtain ⟨k, g, hk, rfl, hb, hH⟩ := hrel
    clear hmk
    by_cases hlt : k < cs.length
    · have hzb := hb.size
      obtain ⟨rfl, hblt, hL⟩ := ha k hlt
      obtain ⟨x, u, hx, c0, hR, c1, hbr⟩ := hL.at hblt hb hlt
      have HX : Hid (cs[k]? = some x) := hx
      have hxn : x.r.length ≤ 1048576 := by have := wt_mem (List.mem_of_getElem? hx); unfold wt at this; unfold wtb at hn; omega
      have hBr := (hH.cells hlt).2.2.2
      clear ha hL hx
      go_wp2_with (go_at_call 160; refine (toCounted_any _ _ _ _ hR hxn).mono ?_; rintro e w1 ⟨⟨D, hD, rfl, hRD⟩, hb1⟩; have hz1 := hb1.size; have hH1 := hH.below hk hb1; obtain ⟨⟨y0, g0⟩, ⟨y1, g1⟩, gf, gs⟩ := hH1.cells hlt)
      refine ⟨⟨k + 1, _, hlt, by simp, by repeat (first | exact Below.refl _ _ | refine Below.drew ?_ | refine Below.alloc ?_ (by first | (simp; done) | (simp; omega) | omega) _ | refine Below.setCell ?_ (by first | (simp; done) | (simp; omega) | omega) _ | refine bstep (by assumption) (by first | (simp; done) | (simp; omega) | omega) ?_), hH1.step HX.out hRD (by omega) (fun i hi => Nat.lt_of_lt_of_le (hH.lt hk hi) hD)⟩, by simp [intOf]; omega⟩
    · go_wp2
      go_returns
      obtain rfl : k = cs.length := by omega
      exact ⟨⟨g, rfl, hH⟩, hb⟩
set_option maxHeartbeats 1000000 in
theorem toBag_any (W : Int) (v : Value) (cs : List C2) (w : World) (hr : RowsIs w v cs) (hn : wtb cs ≤ 1048576) :
    Calls Try.prog 109 #[.agg #[.int .i64 W, v]] w fun e w' => (∃ B g, w.heap.size ≤ B ∧ e = .returned (.agg #[.int .i64 W, .slice (some ⟨B, 0, none⟩) cs.length cs.length]) ∧ HalfB w' B cs g cs.length) ∧ Below w.heap.size w w' := by
  go_enter Try.func109, Try.ntmps109
  go_wp2_with fail
  refine Calls.mono (toCountedS_any v cs _ (hr.below ?hb) hn) ?_
  case hb => repeat (first | exact Below.refl _ _ | refine Below.drew ?_ | refine Below.alloc ?_ (by first | (simp; done) | (simp; omega) | omega) _ | refine Below.setCell ?_ (by first | (simp; done) | (simp; omega) | omega) _ | refine bstep (by assumption) (by first | (simp; done) | (simp; omega) | omega) ?_)
  rintro e w1 ⟨⟨g, rfl, hH1⟩, hb1⟩
  have hz1 := hb1.size
  simp only [World.size_alloc] at hz1 hH1
  have hf1 := (bcell hb1).2
  have hy : w.heap.size + 1 + 1 < w1.heap.size := by omega
  have hy1 : w.heap.size + 1 < w1.heap.size := by omega
  have hy0 : w.heap.size < w1.heap.size := by omega
  have p0 : w1.cell? ⟨w.heap.size + 1, 0, none⟩ = some (.int .i64 0) := cell_later hb1 (by go_simp)
  have p1 : w1.cell? ⟨w.heap.size + 1, 1, none⟩ = some (.slice none 0 0) := cell_later hb1 (by go_simp)
  have t0 : w1.cell? ⟨w.heap.size + 1 + 1, 0, none⟩ = some (.int .i64 W) := cell_later hb1 (by go_simp)
  have t1 : w1.cell? ⟨w.heap.size + 1 + 1, 1, none⟩ = some (.slice none 0 0) := cell_later hb1 (by go_simp)
  go_wp2
  refine bodyPost_ret (v := .agg #[.int .i64 W, .slice (some ⟨w.heap.size + 1 + 1 + 1, 0, none⟩) cs.length cs.length]) (by simp [results, Try.results109, go_sem, *]) rfl ⟨⟨w.heap.size + 1 + 1 + 1, g, by omega, by simp, ?_⟩, ?_⟩
  · refine hH1.keep (Nat.le_refl _) fun b hb => ?_
    repeat rw [Below.heap_setCell _ _ _ _ (by simp; try omega)]
  · repeat (first | exact Below.refl _ _ | refine Below.drew ?_ | refine Below.alloc ?_ (by first | (simp; done) | (simp; omega) | omega) _ | refine Below.setCell ?_ (by first | (simp; done) | (simp; omega) | omega) _ | refine bstep (by assumption) (by first | (simp; done) | (simp; omega) | omega) ?_)
/-- .. in plain words. -/
theorem toBag_rows (W : Int) (v : Value) (cs : List C2) (w : World) (hr : RowsIs w v cs) (hn : wtb cs ≤ 1048576) :
    Calls Try.prog 109 #[.agg #[.int .i64 W, v]] w fun e w' => (∃ u, e = .returned (.agg #[.int .i64 W, u]) ∧ RowsIs w' u cs) ∧ Below w.heap.size w w' :=
  (toBag_any W v cs w hr hn).mono fun e w' ⟨⟨B, g, hB, he, h⟩, hb⟩ => ⟨⟨_, he, h.rows (fun x hx => by have := wt_mem hx; unfold wt at this; unfold wtb at hn; unfold maxLen; omega) (by unfold wtb at hn; unfold maxLen; omega)⟩, hb⟩
end Go.Proofs.Ytdkbhoichmcodaa
/- Own text. The contract of toRelS: new relations with the same names and bags, all of it in memory of the call's own. -/
namespace Go.Proofs.Ytdkbhoichmcodaa
open Go.RowKit Go.Deep
set_option linter.unusedVariables false
theorem Try.infoRel : (Try.prog.info? 87).map (fun i => (i.zero, i.size, i.bytes)) = some (some (.agg #[.string ⟨#[]⟩, .int .i64 0, .slice none 0 0]), 3, 48) := by kernel_rfl
/-- relations of the call's own: block B0 has them, the first k are laid; each bag lies above it. -/
def HalfR (w : World) (B0 : Nat) (rs : List R3) (k : Nat) : Prop :=
  ∃ f, w.rowIs B0 87 (rs.length * 3) f ∧ ∀ i x, i < k → rs[i]? = some x → f (i * 3) = .string x.s ∧ f (i * 3 + 1) = .int .i64 x.W ∧ ∃ B g, B0 < B ∧ f (i * 3 + 2) = .slice (some ⟨B, 0, none⟩) x.cs.length x.cs.length ∧ HalfB w B x.cs g x.cs.length
theorem HalfR.cells {w : World} {B : Nat} {rs : List R3} {k : Nat} (h : HalfR w B rs k) (hk : k < rs.length) :
    (∃ u, w.cell? ⟨B, k * 3, none⟩ = some u) ∧ (∃ u, w.cell? ⟨B, k * 3 + 1, none⟩ = some u) ∧ (∃ u, w.cell? ⟨B, k * 3 + 2, none⟩ = some u) ∧ (∀ i, w.frozen? ⟨B, i, none⟩ = false) ∧ B < w.heap.size := by
  obtain ⟨f, h, _⟩ := h
  exact ⟨⟨_, h.cell (by omega)⟩, ⟨_, h.cell (by omega)⟩, ⟨_, h.cell (by omega)⟩, fun i => h.frozen i, h.lt⟩
theorem HalfR.below {w w' : World} {B : Nat} {rs : List R3} {k : Nat} (h : HalfR w B rs k) (hb : Below w.heap.size w w') : HalfR w' B rs k := by
  obtain ⟨f, hf, he⟩ := h
  refine ⟨f, hf.of_block (hb.block _ hf.lt), fun i x hi hx => ?_⟩
  obtain ⟨h0, h1, B, g, hB, h2, hH⟩ := he i x hi hx
  exact ⟨h0, h1, B, g, hB, h2, hH.below (Nat.le_refl _) hb⟩
theorem HalfR.step {w : World} {B D : Nat} {rs : List R3} {g : Nat → Nat} {k : Nat} {x : R3} (h : HalfR w B rs k) (hx : rs[k]? = some x) (hD : HalfB w D x.cs g x.cs.length) (hB : B < D) :
    HalfR (((w.setCell ⟨B, k * 3, none⟩ (.string x.s)).setCell ⟨B, k * 3 + 1, none⟩ (.int .i64 x.W)).setCell ⟨B, k * 3 + 2, none⟩ (.slice (some ⟨D, 0, none⟩) x.cs.length x.cs.length)) B rs (k + 1) := by
  obtain ⟨f, hf, he⟩ := h
  have hblk : ∀ b, B < b → (((w.setCell ⟨B, k * 3, none⟩ (.string x.s)).setCell ⟨B, k * 3 + 1, none⟩ (.int .i64 x.W)).setCell ⟨B, k * 3 + 2, none⟩ (.slice (some ⟨D, 0, none⟩) x.cs.length x.cs.length)).heap[b]? = w.heap[b]? := by
    intro b hb
    repeat rw [Below.heap_setCell _ _ _ _ (by show b ≠ B; omega)]
  refine ⟨_, ((hf.set _ _).set _ _).set _ _, fun i y hi hy => ?_⟩
  by_cases e : i = k
  · subst e
    obtain rfl : y = x := by rw [hx] at hy; exact (Option.some.inj hy).symm
    refine ⟨by simp, by simp, D, g, hB, by simp, hD.keep (Nat.le_refl _) fun b hb => hblk b (by omega)⟩
  · have n : ∀ p q : Nat, p < 3 → q < 3 → i * 3 + p ≠ k * 3 + q := by intro p q hp hq; omega
    have n0 : ∀ q : Nat, q < 3 → i * 3 ≠ k * 3 + q := by intro q hq; omega
    have n1 : ∀ p : Nat, p < 3 → i * 3 + p ≠ k * 3 := by intro q hq; omega
    have n2 : i * 3 ≠ k * 3 := by omega
    obtain ⟨h0, h1, D', g', hB', h2, hH⟩ := he i y (by omega) hy
    refine ⟨?_, ?_, D', g', hB', ?_, hH.keep (Nat.le_refl _) fun b hb => hblk b (by omega)⟩
    · simp only [if_neg n2, if_neg (n0 1 (by omega)), if_neg (n0 2 (by omega))]; exact h0
    · simp only [if_neg (n1 1 (by omega)), if_neg (n 1 1 (by omega) (by omega)), if_neg (n 1 2 (by omega) (by omega))]; exact h1
    · simp only [if_neg (n1 2 (by omega)), if_neg (n 2 1 (by omega) (by omega)), if_neg (n 2 2 (by omega) (by omega))]; exact h2
theorem wtb_rows {cs : List C2} (h : wtb cs ≤ 1048576) : (∀ x ∈ cs, x.r.length ≤ maxLen) ∧ cs.length ≤ maxLen :=
  ⟨fun x hx => by have := wt_mem hx; unfold wt at this; unfold wtb at h; unfold maxLen; omega, by unfold wtb at h; unfold maxLen; omega⟩
theorem HalfR.rels {w : World} {B : Nat} {rs : List R3} (h : HalfR w B rs rs.length) (hn : wtR rs ≤ 1048576) : RelsIs w (.slice (some ⟨B, 0, none⟩) rs.length rs.length) rs := by
  obtain ⟨f, hf, he⟩ := h
  refine ⟨_, _, rfl, Nat.le_refl _, by unfold wtR at hn; unfold maxLen; omega, fun _ => ⟨B, 0, rfl, hf.lt, fun i x hx => ?_⟩⟩
  have hi : i < rs.length := (List.getElem?_eq_some_iff.1 hx).1
  obtain ⟨e0, e1, D, g, hB, e2, hH⟩ := he i x hi hx
  have hx1 : wtb x.cs ≤ 1048576 := by have := wtr_mem (List.mem_of_getElem? hx); unfold wtr at this; unfold wtR at hn; omega
  exact ⟨_, by rw [Nat.zero_add, hf.cell (by omega), e0], by rw [Nat.zero_add, hf.cell (by omega), e1], by rw [Nat.zero_add, hf.cell (by omega), e2], hH.rows (wtb_rows hx1).1 (wtb_rows hx1).2⟩
theorem halfR_made (w : World) (z : Array Value) (rs : List R3) : HalfR (w.alloc (.cells (madeCells z (rs.length * 3)) 87)) w.heap.size rs 0 :=
  ⟨fun i => (madeCells z (rs.length * 3))[i]?.getD undef, ⟨_, blk_alloc_new _ _, size_madeCells _ _, fun i hi => by
    have : i < (madeCells z (rs.length * 3)).size := by rw [size_madeCells]; exact hi
    simp [this]⟩, fun i x hi => by omega⟩
set_option maxHeartbeats 1000000 in
theorem toRel_any (s : ByteArray) (W : Int) (v : Value) (cs : List C2) (w : World) (hr : RowsIs w v cs) (hn : wtb cs ≤ 1048576) :
    Calls Try.prog 58 #[.agg #[.string s, .int .i64 W, v]] w fun e w' => (∃ B g, w.heap.size ≤ B ∧ e = .returned (.agg #[.string s, .int .i64 W, .slice (some ⟨B, 0, none⟩) cs.length cs.length]) ∧ HalfB w' B cs g cs.length) ∧ Below w.heap.size w w' := by
  obtain ⟨a, l, c, rfl⟩ := hr.shape
  go_enter Try.func58, Try.ntmps58
  go_wp2_with fail
  refine Calls.mono (toBag_any W (.slice a l c) cs _ (hr.below ?hb) hn) ?_
  case hb => repeat (first | exact Below.refl _ _ | refine Below.drew ?_ | refine Below.alloc ?_ (by first | (simp; done) | (simp; omega) | omega) _ | refine Below.setCell ?_ (by first | (simp; done) | (simp; omega) | omega) _ | refine bstep (by assumption) (by first | (simp; done) | (simp; omega) | omega) ?_)
  rintro e w1 ⟨⟨B, g, hB, rfl, hH1⟩, hb1⟩
  have hz1 := hb1.size
  simp only [World.size_alloc] at hz1 hB
  have hf1 := (bcell hb1).2
  have hy : w.heap.size + 1 + 1 < w1.heap.size := by omega
  have hy1 : w.heap.size + 1 < w1.heap.size := by omega
  have hy0 : w.heap.size < w1.heap.size := by omega
  have p0 : w1.cell? ⟨w.heap.size + 1, 0, none⟩ = some (.string ⟨#[]⟩) := cell_later hb1 (by go_simp)
  have p1 : w1.cell? ⟨w.heap.size + 1, 1, none⟩ = some (.int .i64 0) := cell_later hb1 (by go_simp)
  have p2 : w1.cell? ⟨w.heap.size + 1, 2, none⟩ = some (.slice none 0 0) := cell_later hb1 (by go_simp)
  have t0 : w1.cell? ⟨w.heap.size + 1 + 1, 0, none⟩ = some (.string s) := cell_later hb1 (by go_simp)
  have t1 : w1.cell? ⟨w.heap.size + 1 + 1, 1, none⟩ = some (.int .i64 0) := cell_later hb1 (by go_simp)
  have t2 : w1.cell? ⟨w.heap.size + 1 + 1, 2, none⟩ = some (.slice none 0 0) := cell_later hb1 (by go_simp)
  go_wp2
  refine bodyPost_ret (v := .agg #[.string s, .int .i64 W, .slice (some ⟨B, 0, none⟩) cs.length cs.length]) (by simp [results, Try.results58, go_sem, *]) rfl ⟨⟨B, g, by omega, by simp, ?_⟩, ?_⟩
  · refine hH1.keep (Nat.le_refl _) fun b hb => ?_
    repeat rw [Below.heap_setCell _ _ _ _ (by simp; try omega)]
  · repeat (first | exact Below.refl _ _ | refine Below.drew ?_ | refine Below.alloc ?_ (by first | (simp; done) | (simp; omega) | omega) _ | refine Below.setCell ?_ (by first | (simp; done) | (simp; omega) | omega) _ | refine bstep (by assumption) (by first | (simp; done) | (simp; omega) | omega) ?_)
set_option maxHeartbeats 2000000 in
set_option maxRecDepth 100000 in
theorem toRelS_rels (v : Value) (rs : List R3) (w : World) (hr : RelsIs w v rs) (hn : wtR rs ≤ 1048576) :
    Calls Try.prog 21 #[v] w fun e w' => (∃ u, e = .returned u ∧ RelsIs w' u rs) ∧ Below w.heap.size w w' := by
  obtain ⟨a, c, b, o, rfl, hl, hc, ha⟩ := hr.pick
  unfold maxLen at hc
  clear hr
  have hn1 : rs.length ≤ 1048576 := by unfold wtR at hn; omega
  have hmk := run_make_wide (P := Try.prog) 38 87 _ 3 48 Try.underlying38 Try.infoRel rs.length (by omega) (by omega)
  go_enter Try.func21, Try.ntmps21
  go_wp2
  go_loopw [4] (fun i wr => ∃ (k : Nat), k ≤ rs.length ∧ i = .int .i64 k ∧ Below w.heap.size w wr ∧ HalfR wr w.heap.size rs k) (fun i _ => rs.length - (intOf i).toNat)
  case atStart => exact ⟨0, Nat.zero_le _, rfl, by go_grown, halfR_made _ _ _⟩
  case round =>
    obtain ⟨k, hk, rfl, hb, hH⟩ := hrel
    clear hmk
    by_cases hlt : k < rs.length
    · have hzb := hb.size
      obtain ⟨rfl, hblt, hL⟩ := ha k hlt
      obtain ⟨x, u, hx, c0, c1, c2, hR, hbr⟩ := hL.at hblt hb hlt
      have HX : Hid (rs[k]? = some x) := hx
      have hxn : wtb x.cs ≤ 1048576 := by have := wtr_mem (List.mem_of_getElem? hx); unfold wtr at this; unfold wtR at hn; omega
      have hBr := (hH.cells hlt).2.2.2.2
      clear ha hL hx
      go_wp2_with (go_at_call 58; refine (toRel_any _ _ _ _ _ hR hxn).mono ?_; rintro e w1 ⟨⟨D, g, hD, rfl, hRD⟩, hb1⟩; have hz1 := hb1.size; have hH1 := hH.below hb1; obtain ⟨⟨y0, g0⟩, ⟨y1, g1⟩, ⟨y2, g2⟩, gf, gs⟩ := hH1.cells hlt)
      refine ⟨⟨k + 1, hlt, by simp, by repeat (first | exact Below.refl _ _ | refine Below.drew ?_ | refine Below.alloc ?_ (by first | (simp; done) | (simp; omega) | omega) _ | refine Below.setCell ?_ (by first | (simp; done) | (simp; omega) | omega) _ | refine bstep (by assumption) (by first | (simp; done) | (simp; omega) | omega) ?_), hH1.step HX.out hRD (by omega)⟩, by simp [intOf]; omega⟩
    · go_wp2
      go_returns
      obtain rfl : k = rs.length := by omega
      exact ⟨⟨_, rfl, hH.rels hn⟩, hb⟩
end Go.Proofs.Ytdkbhoichmcodaa
/- Own text. Blocks of a call's own, and what a call may write: the blocks of a list, and new ones. -/
namespace Go.Proofs.Ytdkbhoichmcodaa
open Go.RowKit Go.Deep
set_option linter.unusedVariables false
/-- the blocks of F may be written. -/
def Free (w : World) (F : List Nat) : Prop := ∀ b ∈ F, ∀ o, w.frozen? ⟨b, o, none⟩ = false
/-- the blocks of F are the call's own from N on: each once, not frozen. -/
def Own (w : World) (N : Nat) (F : List Nat) : Prop := F.Nodup ∧ (∀ b ∈ F, N ≤ b) ∧ Free w F
/-- what was there is as it was, the blocks of F aside. -/
structure Chg (F : List Nat) (w w' : World) : Prop where
  os : w'.os = w.os
  tape : w'.tape = w.tape
  output : w'.output = w.output
  size : w.heap.size ≤ w'.heap.size
  block : ∀ k, k < w.heap.size → k ∉ F → w'.heap[k]? = w.heap[k]?
  free : Free w F → Free w' F
theorem Chg.of_below {w w' : World} {F : List Nat} (h : Below w.heap.size w w') (hF : ∀ b ∈ F, b < w.heap.size) : Chg F w w' :=
  ⟨h.os, h.tape, h.output, h.size, fun k hk _ => h.block k hk, fun f b hb o => (frozen_blk (h.block b (hF b hb))).trans (f b hb o)⟩
theorem Chg.refl (F : List Nat) (w : World) : Chg F w w := ⟨rfl, rfl, rfl, Nat.le_refl _, fun _ _ _ => rfl, id⟩
theorem Chg.trans {a b c : World} {F : List Nat} (h : Chg F a b) (k : Chg F b c) : Chg F a c :=
  ⟨k.os.trans h.os, k.tape.trans h.tape, k.output.trans h.output, Nat.le_trans h.size k.size, fun i hi hF => (k.block i (Nat.lt_of_lt_of_le hi h.size) hF).trans (h.block i hi hF), fun f => k.free (h.free f)⟩
theorem Chg.setCell {w w' : World} {F : List Nat} (h : Chg F w w') {p : Addr} (hp : p.block ∈ F) (u : Value) : Chg F w (w'.setCell p u) :=
  ⟨h.os, h.tape, h.output, by simpa using h.size, fun k hk hF => (Below.heap_setCell _ _ _ _ (by rintro rfl; exact hF hp)).trans (h.block k hk hF), fun f b hb o => by rw [World.frozen?_setCell]; exact h.free f b hb o⟩
theorem Chg.wide {w w' : World} {F G : List Nat} (h : Chg F w w') (hs : ∀ b ∈ F, b ∈ G) (hG : ∀ b ∈ G, b ∉ F → b < w.heap.size) : Chg G w w' :=
  ⟨h.os, h.tape, h.output, h.size, fun k hk hF => h.block k hk fun hx => hF (hs k hx), fun f b hb o => by
    by_cases hx : b ∈ F
    · exact h.free (fun c hc => f c (hs c hc)) b hx o
    · exact (frozen_blk (h.block b (hG b hb hx) hx)).trans (f b hb o)⟩
theorem Chg.below {w w' : World} {F : List Nat} {N : Nat} (h : Chg F w w') (hF : ∀ b ∈ F, N ≤ b) (hN : N ≤ w.heap.size) : Below N w w' :=
  ⟨h.os, h.tape, h.output, h.size, fun k hk => h.block k (by omega) fun hx => by have := hF k hx; omega⟩
theorem Own.keep {w w' : World} {N : Nat} {F : List Nat} (h : Own w N F) (hF : ∀ b ∈ F, w'.heap[b]? = w.heap[b]?) : Own w' N F :=
  ⟨h.1, h.2.1, fun b hb o => (frozen_blk (hF b hb)).trans (h.2.2 b hb o)⟩
/-- the n cells from place o of block b on are those of f. -/
def CellsAre (w : World) (b o n : Nat) (f : Nat → Value) : Prop := ∀ j, j < n → w.cell? ⟨b, o + j, none⟩ = some (f j)
theorem CellsAre.set {w : World} {b o n j0 : Nat} {f : Nat → Value} (h : CellsAre w b o n f) (hj : j0 < n) (u : Value) : CellsAre (w.setCell ⟨b, o + j0, none⟩ u) b o n (fun j => if j = j0 then u else f j) := by
  intro j hjn
  show _ = some (if j = j0 then u else f j)
  by_cases e : j = j0
  · subst e
    rw [if_pos rfl]
    exact World.cell?_setCell_same _ _ _ (h j hjn)
  · rw [if_neg e, World.cell?_setCell_other _ _ _ _ (by intro x; have := congrArg Addr.off x; simp at this; omega)]
    exact h j hjn
theorem CellsAre.put {w : World} {b o n j0 q : Nat} {f : Nat → Value} (h : CellsAre w b o n f) (hj : j0 < n) (hq : q = o + j0) (u : Value) : CellsAre (w.setCell ⟨b, q, none⟩ u) b o n (fun j => if j = j0 then u else f j) := by subst hq; exact h.set hj u
theorem CellsAre.keep {w w' : World} {b o n : Nat} {f : Nat → Value} (h : CellsAre w b o n f) (hb : w'.heap[b]? = w.heap[b]?) : CellsAre w' b o n f := fun j hj => (cell_blk hb).trans (h j hj)
theorem CellsAre.congr {w : World} {b o n : Nat} {f g : Nat → Value} (h : CellsAre w b o n f) (e : ∀ j, j < n → f j = g j) : CellsAre w b o n g := fun j hj => (h j hj).trans (congrArg some (e j hj))
theorem lies_cells {w : World} {b o : Nat} {vs : List V3} : Lies w b o vs ↔ CellsAre w b o (vs.length * 3) (cf vs) := by
  constructor
  · intro h j hj
    have hi : j / 3 < vs.length := by omega
    obtain ⟨h0, h1, h2⟩ := h (j / 3) vs[j / 3] (by simp)
    obtain ⟨e0, e1, e2⟩ := cf_at (vs := vs) (k := j / 3) (x := vs[j / 3]) (by simp)
    have hj3 : j = j / 3 * 3 ∨ j = j / 3 * 3 + 1 ∨ j = j / 3 * 3 + 2 := by omega
    rcases hj3 with e | e | e
    · rw [e, e0]; exact h0
    · rw [e, e1, ← Nat.add_assoc]; exact h1
    · rw [e, e2, ← Nat.add_assoc]; exact h2
  · intro h i x hx
    have hi : i < vs.length := (List.getElem?_eq_some_iff.1 hx).1
    obtain ⟨e0, e1, e2⟩ := cf_at hx
    refine ⟨?_, ?_, ?_⟩
    · rw [h (i * 3) (by omega), e0]
    · rw [Nat.add_assoc, h (i * 3 + 1) (by omega), e1]
    · rw [Nat.add_assoc, h (i * 3 + 2) (by omega), e2]
/-- the slice value v has the values vs, in the blocks g (one, or none of no values). -/
def RowF (w : World) (v : Value) (vs : List V3) (g : List Nat) : Prop :=
  ∃ (a : Option Addr) (c : Nat), v = .slice a vs.length c ∧ vs.length ≤ c ∧ c ≤ maxLen ∧ (a = none → c = 0) ∧ (vs = [] → g = []) ∧ (vs ≠ [] → ∃ b o, a = some ⟨b, o, none⟩ ∧ b < w.heap.size ∧ g = [b] ∧ Lies w b o vs)
theorem RowF.is {w : World} {v : Value} {vs : List V3} {g : List Nat} (h : RowF w v vs g) : RowIs w v vs := by
  obtain ⟨a, c, rfl, hl, hc, _, _, h⟩ := h
  refine ⟨a, c, rfl, hl, hc, fun hne => ?_⟩
  obtain ⟨b, o, rfl, hlt, _, hL⟩ := h hne
  exact ⟨b, o, rfl, hlt, hL⟩
theorem RowF.lt {w : World} {v : Value} {vs : List V3} {g : List Nat} (h : RowF w v vs g) : ∀ b ∈ g, b < w.heap.size := by
  obtain ⟨a, c, rfl, hl, hc, _, h0, h⟩ := h
  intro b hb
  by_cases hne : vs = []
  · rw [h0 hne] at hb; cases hb
  · obtain ⟨b', o, rfl, hlt, rfl, hL⟩ := h hne
    rcases List.mem_singleton.1 hb with rfl
    exact hlt
theorem RowF.keep {w w' : World} {v : Value} {vs : List V3} {g : List Nat} (h : RowF w v vs g) (hs : w.heap.size ≤ w'.heap.size) (hg : ∀ b ∈ g, w'.heap[b]? = w.heap[b]?) : RowF w' v vs g := by
  obtain ⟨a, c, rfl, hl, hc, hz, h0, h⟩ := h
  refine ⟨a, c, rfl, hl, hc, hz, h0, fun hne => ?_⟩
  obtain ⟨b, o, rfl, hlt, rfl, hL⟩ := h hne
  exact ⟨b, o, rfl, Nat.lt_of_lt_of_le hlt hs, rfl, lies_cells.2 ((lies_cells.1 hL).keep (hg b (by simp)))⟩
/-- the slice value v has the counted rows cs, in the blocks F. -/
def RowsF (w : World) (v : Value) (cs : List C2) (F : List Nat) : Prop :=
  ∃ (a : Option Addr) (c : Nat) (G : List (List Nat)), v = .slice a cs.length c ∧ cs.length ≤ c ∧ c ≤ maxLen ∧ (a = none → c = 0) ∧ G.length = cs.length ∧ (cs = [] → F = []) ∧
    (cs ≠ [] → ∃ b o, a = some ⟨b, o, none⟩ ∧ b < w.heap.size ∧ F = b :: G.flatten ∧ ∀ i x g, cs[i]? = some x → G[i]? = some g → ∃ u, w.cell? ⟨b, o + i * 2, none⟩ = some u ∧ RowF w u x.r g ∧ w.cell? ⟨b, o + i * 2 + 1, none⟩ = some (.int .i64 x.n))
theorem RowsF.is {w : World} {v : Value} {cs : List C2} {F : List Nat} (h : RowsF w v cs F) : RowsIs w v cs := by
  obtain ⟨a, c, G, rfl, hl, hc, _, hG, _, h⟩ := h
  refine ⟨a, c, rfl, hl, hc, fun hne => ?_⟩
  obtain ⟨b, o, rfl, hlt, _, hL⟩ := h hne
  refine ⟨b, o, rfl, hlt, fun i x hx => ?_⟩
  have hi : i < cs.length := (List.getElem?_eq_some_iff.1 hx).1
  have hi' : i < G.length := by omega
  obtain ⟨u, h0, h1, h2⟩ := hL i x G[i] hx (by simp)
  exact ⟨u, h0, h1.is, h2⟩
theorem RowsF.lt {w : World} {v : Value} {cs : List C2} {F : List Nat} (h : RowsF w v cs F) : ∀ b ∈ F, b < w.heap.size := by
  obtain ⟨a, c, G, rfl, hl, hc, _, hG, h0, h⟩ := h
  intro x hx
  by_cases hne : cs = []
  · rw [h0 hne] at hx; cases hx
  obtain ⟨b, o, rfl, hlt, rfl, hL⟩ := h hne
  rcases List.mem_cons.1 hx with rfl | hx
  · exact hlt
  obtain ⟨g, hg, hxg⟩ := List.mem_flatten.1 hx
  obtain ⟨i, hi, rfl⟩ := List.mem_iff_getElem.1 hg
  have hi' : i < cs.length := by omega
  obtain ⟨u, _, hk, _⟩ := hL i cs[i] G[i] (by simp) (by simp)
  exact hk.lt x hxg
theorem RowsF.keep {w w' : World} {v : Value} {cs : List C2} {F : List Nat} (h : RowsF w v cs F) (hs : w.heap.size ≤ w'.heap.size) (hF : ∀ b ∈ F, w'.heap[b]? = w.heap[b]?) : RowsF w' v cs F := by
  obtain ⟨a, c, G, rfl, hl, hc, hz, hG, h0, h⟩ := h
  refine ⟨a, c, G, rfl, hl, hc, hz, hG, h0, fun hne => ?_⟩
  obtain ⟨b, o, rfl, hlt, rfl, hL⟩ := h hne
  refine ⟨b, o, rfl, Nat.lt_of_lt_of_le hlt hs, rfl, fun i x g hx hg => ?_⟩
  obtain ⟨u, a0, a1, a2⟩ := hL i x g hx hg
  have hb := hF b List.mem_cons_self
  exact ⟨u, (cell_blk hb).trans a0, a1.keep hs (fun y hy => hF y (List.mem_cons_of_mem _ (List.mem_flatten.2 ⟨g, List.mem_of_getElem? hg, hy⟩))), (cell_blk hb).trans a2⟩
theorem RowsF.below {w w' : World} {v : Value} {cs : List C2} {F : List Nat} (h : RowsF w v cs F) (hb : Below w.heap.size w w') : RowsF w' v cs F := h.keep hb.size fun b hF => hb.block b (h.lt b hF)
theorem RowsF.chg {w w' : World} {v : Value} {cs : List C2} {F G : List Nat} (h : RowsF w v cs F) (hb : Chg G w w') (hd : ∀ b ∈ F, b ∉ G) : RowsF w' v cs F := h.keep hb.size fun b hF => hb.block b (h.lt b hF) (hd b hF)
theorem Own.below {w w' : World} {N : Nat} {F : List Nat} (h : Own w N F) (hl : ∀ b ∈ F, b < w.heap.size) (hb : Below w.heap.size w w') : Own w' N F := h.keep fun b hF => hb.block b (hl b hF)
end Go.Proofs.Ytdkbhoichmcodaa
/- Own text. A row that is copied: what append makes of an empty row and one that came in. -/
namespace Go.Proofs.Ytdkbhoichmcodaa
open Go.RowKit Go.Deep Go.ChangeShapes Go.WideShapes
set_option linter.unusedVariables false
/-- the cells of a row, in a list. -/
def rc (vs : List V3) : List Value := (List.range (vs.length * 3)).map (cf vs)
theorem rc_len (vs : List V3) : (rc vs).length = vs.length * 3 := by simp [rc]
theorem rc_one (vs : List V3) : ∀ u ∈ rc vs, u.oneCell' = true := by
  intro u hu
  obtain ⟨j, _, rfl⟩ := List.mem_map.1 hu
  unfold cf
  split
  · rfl
  · split <;> rfl
theorem rc_cells {w : World} {b o : Nat} {vs : List V3} (h : Lies w b o vs) : ∀ j u, (rc vs)[j]? = some u → w.cell? ((⟨b, o, none⟩ : Addr).add j) = some u := by
  intro j u hu
  have hj : j < vs.length * 3 := by have := (List.getElem?_eq_some_iff.1 hu).1; rwa [rc_len] at this
  have e : u = cf vs j := by simp [rc, hj] at hu; exact hu.symm
  rw [add_plain, e]
  exact lies_cells.1 h j hj
theorem own_rowF {w : World} {N n : Nat} {v : Value} {vs : List V3} {t : TypeId} (h : w.ownsRow N t 3 v n (rc vs)) : ∃ g, RowF w v vs g ∧ Own w N g := by
  obtain ⟨hl, h⟩ := h
  rw [rc_len] at hl
  obtain rfl : n = vs.length := by omega
  by_cases hne : vs = []
  · refine ⟨[], ?_, by simp [Own, Free]⟩
    subst hne
    rcases h with ⟨rfl, _⟩ | ⟨g, cap, cur, rfl, _, _, hn, hm, _⟩
    · exact ⟨none, 0, rfl, Nat.le_refl _, by simp, fun _ => rfl, fun _ => rfl, fun x => absurd rfl x⟩
    · exact ⟨_, cap, rfl, hn, hm, (fun x => by cases x), fun _ => rfl, fun x => absurd rfl x⟩
  have hp : 0 < vs.length := List.length_pos_iff.2 hne
  rcases h with ⟨_, h0⟩ | ⟨g, cap, cur, rfl, hg, hc, hn, hm, hs, ht⟩
  · omega
  have hlt : g < w.heap.size := by
    rcases Nat.lt_or_ge g w.heap.size with h' | h'
    · exact h'
    · simp [Array.getElem?_eq_none h'] at hc
  refine ⟨[g], ⟨_, cap, rfl, hn, hm, (fun x => by cases x), fun x => absurd x hne, fun _ => ⟨g, 0, rfl, hlt, rfl, lies_cells.2 fun j hj => ?_⟩⟩, by simp, by simpa using hg, fun b hb o => ?_⟩
  · rw [Nat.zero_add]
    simp only [World.cell?, hc]
    have h1 : (cur.toList.take (vs.length * 3))[j]? = some (cf vs j) := by rw [ht]; simp [rc, hj]
    rw [List.getElem?_take, if_pos hj, Array.getElem?_toList] at h1
    simpa using h1
  · rcases List.mem_singleton.1 hb with rfl
    simp [World.frozen?, hc]
theorem rowF_own_nil {w : World} : RowF w (.slice none 0 0) [] [] := ⟨none, 0, rfl, Nat.le_refl _, by simp, fun _ => rfl, fun _ => rfl, fun x => absurd rfl x⟩
theorem own_empty (w : World) (t : TypeId) (n : Nat) : (w.alloc (.cells #[] t)).ownsRow w.heap.size t n (.slice (some ⟨w.heap.size, 0, none⟩) 0 0) 0 [] :=
  ⟨by simp, .inr ⟨w.heap.size, 0, #[], rfl, Nat.le_refl _, heap_alloc_new w _, Nat.le_refl _, by simp, by simp, by simp⟩⟩
theorem own_none {w : World} {N H : Nat} (hH : w.heap.size = H) (hN : N ≤ H) (t : TypeId) (n : Nat) : (w.alloc (.cells #[] t)).ownsRow N t n (.slice (some ⟨H, 0, none⟩) 0 0) 0 [] := by
  subst hH
  exact ⟨by simp, .inr ⟨w.heap.size, 0, #[], rfl, hN, heap_alloc_new w _, Nat.le_refl _, by simp, by simp, by simp⟩⟩
set_option maxHeartbeats 1000000 in
set_option maxRecDepth 100000 in
theorem l02CopyRow_any (v : Value) (vs : List V3) (g0 : List Nat) (w : World) (hr : RowF w v vs g0) (hn : vs.length ≤ 1048576) :
    Calls Try.prog 94 #[v] w fun e w' => (∃ u g, e = .returned u ∧ RowF w' u vs g ∧ Own w' w.heap.size g) ∧ Below w.heap.size w w' := by
  obtain ⟨i0, hi, hz0, hz1, hz2⟩ := info_parts Try.infoVal
  obtain ⟨a, c, rfl, hl, hc, hz, _, h⟩ := hr
  have he := own_empty w 133 3
  have hb0 : Below w.heap.size w (w.alloc (.cells #[] 133)) := (Below.refl _ _).alloc (Nat.le_refl _) _
  cases a with
  | none =>
    obtain rfl := hz rfl
    obtain rfl : vs = [] := List.length_eq_zero_iff.1 (by omega)
    go_enter Try.func94, Try.ntmps94
    go_wp2
    go_returns
    obtain ⟨g, hg⟩ := own_rowF (vs := []) he
    first | exact ⟨⟨_, g, rfl, hg⟩, by repeat (first | (with_reducible exact Below.refl _ _) | (with_reducible refine Below.drew ?_) | (with_reducible refine Below.alloc ?_ ?hh _; case hh => first | (simp; done) | (simp; omega) | omega) | (with_reducible refine Below.setCell ?_ ?hh _; case hh => first | (simp; done) | (simp; omega) | omega) | refine bstep (by assumption) (by first | (simp; done) | (simp; omega) | omega) ?_)⟩ | exact ⟨⟨_, rfl, g, hg⟩, by repeat (first | (with_reducible exact Below.refl _ _) | (with_reducible refine Below.drew ?_) | (with_reducible refine Below.alloc ?_ ?hh _; case hh => first | (simp; done) | (simp; omega) | omega) | (with_reducible refine Below.setCell ?_ ?hh _; case hh => first | (simp; done) | (simp; omega) | omega) | refine bstep (by assumption) (by first | (simp; done) | (simp; omega) | omega) ?_)⟩
  | some ad =>
    have hcl : ∀ j u, (rc vs)[j]? = some u → (w.alloc (.cells #[] 133)).cell? (ad.add j) = some u := by
      by_cases hne : vs = []
      · subst hne; intro j u hu; simp [rc] at hu
      · obtain ⟨b, o, hb, hlt, _, hL⟩ := h hne
        cases hb
        exact rc_cells (hL.below hb0 hlt)
    go_enter Try.func94, Try.ntmps94
    go_wp2_with (at_builtin; refine wpList_append_own _ rfl _ _ 64 rfl w.heap.size 133 i0 _ 3 32 Try.underlying64 hi hz0 hz1 hz2 rfl (by decide) _ _ _ rfl he ad vs.length c (rc vs) rfl (rc_len vs) hcl (rc_one vs) ?c3 ?c4 ?c5 ?_)
    case c3 => unfold maxLen; omega
    case c4 => omega
    case c5 => simp
    intro v5 w5 hown5 hgr5 _
    obtain ⟨g, hg⟩ := own_rowF (vs := vs) (by simpa using hown5)
    have bel : Below w.heap.size w w5 := hb0.grown hgr5 (by simp) (fun k hk => by simp [Value.ownBlock] at hk; omega)
    clear hown5 hgr5 hcl he
    go_wp2
    go_returns
    exact ⟨⟨_, g, rfl, hg⟩, bel⟩
end Go.Proofs.Ytdkbhoichmcodaa
