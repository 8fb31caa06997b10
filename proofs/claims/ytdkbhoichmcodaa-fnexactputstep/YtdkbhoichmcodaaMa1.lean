/- Own texts, joined: contracts that the law's proof goes by. -/
import Derived.Test.YtdkbhoichmcodaaProg
import Derived.WalkKit
import Derived.WalkSpells
import Derived.WalkLawsBesides
import Derived.Below
import Derived.Deep.SlicePairs
import Derived.OpenShut
import Derived.ChangeOld
import Derived.Deep.OwnRows
import Derived.Handy
import Derived.Deep.RegionHeld3
import Derived.Lib.SmallJoins
/- Own text. Small helps for the walks: a world that lies below another one keeps the older cells; the plain functions that the contracts of the values name. -/
namespace Go.Proofs.Ytdkbhoichmcodaa
open Go.RowKit
set_option linter.unusedVariables false
theorem bcell {W w1 : World} (hb : Below W.heap.size W w1) : (∀ b o, b < W.heap.size → w1.cell? ⟨b, o, none⟩ = W.cell? ⟨b, o, none⟩) ∧ (∀ b o, b < W.heap.size → w1.frozen? ⟨b, o, none⟩ = W.frozen? ⟨b, o, none⟩) :=
  ⟨fun b o h => hb.cell (p := ⟨b, o, none⟩) h, fun b o h => hb.frozen (p := ⟨b, o, none⟩) h⟩
theorem bstep {w a b : World} (h : Below a.heap.size a b) (hw : w.heap.size ≤ a.heap.size) (g : Below w.heap.size w a) : Below w.heap.size w b := g.trans (h.mono hw)
/-- what szValue makes of what is left. -/
def szV (s : ByteArray) (left : Int) : Int := if left - s.size < 0 then -1 else left - s.size
theorem szV_bd (s : ByteArray) (left : Int) (h0 : -1 ≤ left) (h1 : left ≤ 1048576) : -1 ≤ szV s left ∧ szV s left ≤ 1048576 := by unfold szV; split <;> omega
theorem szV_small (s : ByteArray) (left : Int) (h : 0 ≤ szV s left) : (s.size : Int) ≤ left := by unfold szV at h; split at h <;> omega
theorem ret_int {a b : Int} (h : a = b) : Ending.returned (.int .i64 a) = .returned (.int .i64 b) := by rw [h]
theorem ret_bool {a b : Bool} (h : a = b) : Ending.returned (.bool a) = .returned (.bool b) := by rw [h]
theorem wrap64_byte (c : UInt8) : wrap64 (c.toNat : Int) = c.toNat := by have := c.toNat_lt; unfold wrap64; omega
/-- the number of a bool. -/
def bn (b : Bool) : Int := if b then 1 else 0
end Go.Proofs.Ytdkbhoichmcodaa
/- Own text. Rows and bags as they lie in memory: a slice of values of three cells each, a slice of counted rows of two cells each; and how they are read off a slice that came in. -/
namespace Go.Proofs.Ytdkbhoichmcodaa
open Go.RowKit Go.Deep Go.ChangeShapes Go.WideShapes
set_option linter.unusedVariables false
/-- a value: its kind, its number, its text. -/
structure V3 where
  k : Int
  n : Int
  s : ByteArray
/-- numbers of 64 bits, a text of a size that there is. -/
def V3.wf (x : V3) : Prop := (Lit.int .i64 x.k).wf = true ∧ (Lit.int .i64 x.n).wf = true ∧ x.s.size ≤ maxLen
def VsWf (vs : List V3) : Prop := ∀ y ∈ vs, y.wf
/-- the values vs lie in w from cell o of block b on. -/
def Lies (w : World) (b o : Nat) (vs : List V3) : Prop :=
  ∀ i x, vs[i]? = some x → w.cell? ⟨b, o + i * 3, none⟩ = some (.int .i64 x.k) ∧ w.cell? ⟨b, o + i * 3 + 1, none⟩ = some (.int .i64 x.n) ∧ w.cell? ⟨b, o + i * 3 + 2, none⟩ = some (.string x.s)
/-- the slice value v has the values vs. -/
def RowIs (w : World) (v : Value) (vs : List V3) : Prop :=
  ∃ a c, v = .slice a vs.length c ∧ vs.length ≤ c ∧ c ≤ maxLen ∧ (vs ≠ [] → ∃ b o, a = some ⟨b, o, none⟩ ∧ b < w.heap.size ∧ Lies w b o vs)
theorem Lies.below {w w' : World} {b o : Nat} {vs : List V3} {N : Nat} (h : Lies w b o vs) (hb : Below N w w') (hN : b < N) : Lies w' b o vs := fun i x hx => by
  obtain ⟨h0, h1, h2⟩ := h i x hx
  exact ⟨(hb.cell (p := ⟨b, o + i * 3, none⟩) hN).trans h0, (hb.cell (p := ⟨b, o + i * 3 + 1, none⟩) hN).trans h1, (hb.cell (p := ⟨b, o + i * 3 + 2, none⟩) hN).trans h2⟩
theorem RowIs.below {w w' : World} {v : Value} {vs : List V3} (h : RowIs w v vs) (hb : Below w.heap.size w w') : RowIs w' v vs := by
  obtain ⟨a, c, rfl, hl, hc, h⟩ := h
  refine ⟨a, c, rfl, hl, hc, fun hne => ?_⟩
  obtain ⟨b, o, rfl, hlt, hL⟩ := h hne
  exact ⟨b, o, rfl, Nat.lt_of_lt_of_le hlt hb.size, hL.below hb hlt⟩
theorem RowIs.pick {w : World} {v : Value} {vs : List V3} (h : RowIs w v vs) :
    ∃ a c b o, v = .slice a vs.length c ∧ vs.length ≤ c ∧ c ≤ maxLen ∧ ∀ k, k < vs.length → a = some ⟨b, o, none⟩ ∧ b < w.heap.size ∧ Lies w b o vs := by
  obtain ⟨a, c, rfl, hl, hc, h⟩ := h
  by_cases hne : vs = []
  · exact ⟨a, c, 0, 0, rfl, hl, hc, fun k hk => by rw [hne] at hk; simp at hk⟩
  · obtain ⟨b, o, h⟩ := h hne
    exact ⟨a, c, b, o, rfl, hl, hc, fun _ _ => h⟩
theorem Lies.at {w w' : World} {b o : Nat} {vs : List V3} (h : Lies w b o vs) (hlt : b < w.heap.size) (hb : Below w.heap.size w w') {k : Nat} (hk : k < vs.length) :
    ∃ x, vs[k]? = some x ∧ w'.cell? ⟨b, o + k * 3, none⟩ = some (.int .i64 x.k) ∧ w'.cell? ⟨b, o + k * 3 + 1, none⟩ = some (.int .i64 x.n) ∧ w'.cell? ⟨b, o + k * 3 + 2, none⟩ = some (.string x.s) ∧ b < w'.heap.size :=
  ⟨vs[k], by simp [hk], by have := h.below hb hlt k vs[k] (by simp [hk]); exact ⟨this.1, this.2.1, this.2.2, Nat.lt_of_lt_of_le hlt hb.size⟩⟩
/-- the cells of a row. -/
def cf (vs : List V3) (i : Nat) : Value := if i % 3 = 0 then .int .i64 (vs.getD (i / 3) ⟨0, 0, ⟨#[]⟩⟩).k else if i % 3 = 1 then .int .i64 (vs.getD (i / 3) ⟨0, 0, ⟨#[]⟩⟩).n else .string (vs.getD (i / 3) ⟨0, 0, ⟨#[]⟩⟩).s
theorem cf_at {vs : List V3} {k : Nat} {x : V3} (h : vs[k]? = some x) : cf vs (k * 3) = .int .i64 x.k ∧ cf vs (k * 3 + 1) = .int .i64 x.n ∧ cf vs (k * 3 + 2) = .string x.s := by
  have e0 : k * 3 / 3 = k := by omega
  have e1 : (k * 3 + 1) / 3 = k := by omega
  have e2 : (k * 3 + 2) / 3 = k := by omega
  have m0 : k * 3 % 3 = 0 := by omega
  have m1 : (k * 3 + 1) % 3 = 1 := by omega
  have m2 : (k * 3 + 2) % 3 = 2 := by omega
  refine ⟨?_, ?_, ?_⟩ <;> simp [cf, e0, e1, e2, m0, m1, m2, List.getD, h]
/-- a row of the call's own, of which the first k values are laid. -/
def Half (w : World) (B : Nat) (t : TypeId) (vs : List V3) (k : Nat) : Prop := ∃ f, w.rowIs B t (vs.length * 3) f ∧ ∀ i, i < k * 3 → f i = cf vs i
theorem Half.done {w : World} {B : Nat} {t : TypeId} {vs : List V3} (h : Half w B t vs vs.length) : w.rowIs B t (vs.length * 3) (cf vs) := by
  obtain ⟨f, h, e⟩ := h
  exact h.congr e
theorem Half.step {w : World} {B : Nat} {t : TypeId} {vs : List V3} {k : Nat} {x : V3} (h : Half w B t vs k) (hx : vs[k]? = some x) :
    Half (((w.setCell ⟨B, k * 3, none⟩ (.int .i64 x.k)).setCell ⟨B, k * 3 + 1, none⟩ (.int .i64 x.n)).setCell ⟨B, k * 3 + 2, none⟩ (.string x.s)) B t vs (k + 1) := by
  obtain ⟨f, h, e⟩ := h
  obtain ⟨h0, h1, h2⟩ := cf_at hx
  refine ⟨_, ((h.set _ _).set _ _).set _ _, fun i hi => ?_⟩
  by_cases e2 : i = k * 3 + 2
  · simp [e2, h2]
  by_cases e1 : i = k * 3 + 1
  · simp [e1, h1]
  by_cases e0 : i = k * 3
  · simp [e0, h0]
  · simp only [if_neg e0, if_neg e1, if_neg e2]
    exact e i (by omega)
theorem Half.of_block {w w' : World} {B : Nat} {t : TypeId} {vs : List V3} {k : Nat} (h : Half w B t vs k) (e : w'.heap[B]? = w.heap[B]?) : Half w' B t vs k := by
  obtain ⟨f, h, g⟩ := h
  exact ⟨f, h.of_block e, g⟩
theorem Half.cells {w : World} {B : Nat} {t : TypeId} {vs : List V3} {k : Nat} (h : Half w B t vs k) (hk : k < vs.length) :
    (∃ u, w.cell? ⟨B, k * 3, none⟩ = some u) ∧ (∃ u, w.cell? ⟨B, k * 3 + 1, none⟩ = some u) ∧ (∃ u, w.cell? ⟨B, k * 3 + 2, none⟩ = some u) ∧ (∀ i, w.frozen? ⟨B, i, none⟩ = false) ∧ B < w.heap.size := by
  obtain ⟨f, h, g⟩ := h
  exact ⟨⟨_, h.cell (by omega)⟩, ⟨_, h.cell (by omega)⟩, ⟨_, h.cell (by omega)⟩, fun i => h.frozen i, h.lt⟩
theorem half_made (w : World) (z : Array Value) (t : TypeId) (vs : List V3) : Half (w.alloc (.cells (madeCells z (vs.length * 3)) t)) w.heap.size t vs 0 :=
  ⟨fun i => (madeCells z (vs.length * 3))[i]?.getD undef, ⟨_, blk_alloc_new _ _, size_madeCells _ _, fun i hi => by
    have : i < (madeCells z (vs.length * 3)).size := by rw [size_madeCells]; exact hi
    simp [this]⟩, fun i hi => by omega⟩
/-- a row of the call's own is a row. -/
theorem rowIs_row {w : World} {B : Nat} {t : TypeId} {vs : List V3} {c : Nat} (h : w.rowIs B t (c * 3) (cf vs)) (hc : vs.length ≤ c) (hm : c ≤ maxLen) : RowIs w (.slice (some ⟨B, 0, none⟩) vs.length c) vs :=
  ⟨_, c, rfl, hc, hm, fun _ => ⟨B, 0, rfl, h.lt, fun i x hx => by
    obtain ⟨h0, h1, h2⟩ := cf_at hx
    have hi : i < vs.length := (List.getElem?_eq_some_iff.1 hx).1
    refine ⟨?_, ?_, ?_⟩
    · rw [Nat.zero_add, h.cell (by omega), h0]
    · rw [Nat.zero_add, h.cell (by omega), h1]
    · rw [Nat.zero_add, h.cell (by omega), h2]⟩⟩
/-- make, elements of any size. -/
theorem run_make_wide {P : Program} (t e : TypeId) (z : Value) (size bytes : Nat) (ht : P.underlying t = some (.slice e)) (hinfo : (P.info? e).map (fun i => (i.zero, i.size, i.bytes)) = some (some z, size, bytes))
    (n : Nat) (hbytes : bytes * n ≤ 281474976710656) (h63 : n ≤ 9223372036854775807) (w : World) :
    (Instr.makeSlice t (.int .i64 (n : Int)) (.int .i64 (n : Int))).run P w = .ok (.slice (some ⟨w.heap.size, 0, none⟩) n n) (w.alloc (.cells (madeCells z.cells (n * size)) e)) := by
  obtain ⟨i, hi, hzz⟩ := Option.map_eq_some_iff.1 hinfo
  simp only [Prod.mk.injEq] at hzz
  obtain ⟨hz, hs, hb⟩ := hzz
  have hb' : (i.bytes : Int) * (n : Int) ≤ 281474976710656 := by
    have h : ((i.bytes * n : Nat) : Int) ≤ 281474976710656 := by rw [hb]; omega
    rwa [Int.natCast_mul] at h
  have hr := run_make (P := P) w t e i z ht hi hz .i64 .i64 n n (by omega) (Int.le_refl _) hb' (by omega)
  rw [hs] at hr
  simpa using hr
/-- what a row weighs: its length and those of its texts. -/
def wts (vs : List V3) : Nat := (vs.map fun x => x.s.size).sum
def wt (vs : List V3) : Nat := vs.length + wts vs
theorem wts_take {vs : List V3} {k : Nat} {x : V3} (h : vs[k]? = some x) : wts (vs.take (k + 1)) = wts (vs.take k) + x.s.size := by
  unfold wts
  obtain ⟨hk, rfl⟩ := List.getElem?_eq_some_iff.1 h
  rw [List.take_succ_eq_append_getElem hk, List.map_append, List.sum_append]
  simp only [List.map_cons, List.map_nil, List.sum_cons, List.sum_nil, Nat.add_zero]
theorem wts_take_le (vs : List V3) (k : Nat) : wts (vs.take k) ≤ wts vs := by
  have : vs = vs.take k ++ vs.drop k := (List.take_append_drop k vs).symm
  unfold wts
  conv => rhs; rw [this]
  simp only [List.map_append, List.sum_append]
  omega
/-- a counted row: its values, how often. -/
structure C2 where
  r : List V3
  n : Int
def C2.wf (x : C2) : Prop := VsWf x.r ∧ (Lit.int .i64 x.n).wf = true
def CsWf (cs : List C2) : Prop := ∀ y ∈ cs, y.wf
/-- the counted rows cs lie in w from cell o of block b on. -/
def CLies (w : World) (b o : Nat) (cs : List C2) : Prop :=
  ∀ i x, cs[i]? = some x → ∃ v, w.cell? ⟨b, o + i * 2, none⟩ = some v ∧ RowIs w v x.r ∧ w.cell? ⟨b, o + i * 2 + 1, none⟩ = some (.int .i64 x.n)
/-- the slice value v has the counted rows cs. -/
def RowsIs (w : World) (v : Value) (cs : List C2) : Prop :=
  ∃ a c, v = .slice a cs.length c ∧ cs.length ≤ c ∧ c ≤ maxLen ∧ (cs ≠ [] → ∃ b o, a = some ⟨b, o, none⟩ ∧ b < w.heap.size ∧ CLies w b o cs)
theorem CLies.below {w w' : World} {b o : Nat} {cs : List C2} (h : CLies w b o cs) (hb : Below w.heap.size w w') (hN : b < w.heap.size) : CLies w' b o cs := fun i x hx => by
  obtain ⟨v, h0, h1, h2⟩ := h i x hx
  exact ⟨v, (hb.cell (p := ⟨b, o + i * 2, none⟩) hN).trans h0, h1.below hb, (hb.cell (p := ⟨b, o + i * 2 + 1, none⟩) hN).trans h2⟩
theorem RowsIs.below {w w' : World} {v : Value} {cs : List C2} (h : RowsIs w v cs) (hb : Below w.heap.size w w') : RowsIs w' v cs := by
  obtain ⟨a, c, rfl, hl, hc, h⟩ := h
  refine ⟨a, c, rfl, hl, hc, fun hne => ?_⟩
  obtain ⟨b, o, rfl, hlt, hL⟩ := h hne
  exact ⟨b, o, rfl, Nat.lt_of_lt_of_le hlt hb.size, hL.below hb hlt⟩
section
variable {H : Type} {enc : TypeId × Value → H} {P : Program} {w : World} {spare : Nat → Bool} {held : Bool}
/-- a slice of values that came in. -/
theorem open_row {t e : TypeId} {F0 F1 F2 : Field} {fuel : Nat} {v : Value} {x : DataW H × List MemPlace} (ht : P.underlying t = some (.slice e)) (he : P.underlying e = some (.struct #[F0, F1, F2]))
    (ce : P.cellsOf e = 3) (o0 : F0.offset = 0) (o1 : F1.offset = 1) (o2 : F2.offset = 2) (c0 : P.cellsOf F0.type = 1) (c1 : P.cellsOf F1.type = 1) (c2 : P.cellsOf F2.type = 1)
    (u0 : P.underlying F0.type = some (.int .i64)) (u1 : P.underlying F1.type = some (.int .i64)) (u2 : P.underlying F2.type = some .string)
    (h : DataW.trod enc P w 0 spare held fuel t [v] = some x) : ∃ vs, RowIs w v vs ∧ VsWf vs := by
  rcases open_slice ht h with ⟨h0, _⟩ | ⟨a, len, cap, m, n, D, Pl, hcs, hb, hl, hm, hmm, rfl, hx⟩
  · simp at h0; subst h0
    exact ⟨[], ⟨none, 0, rfl, by simp, by simp, fun h => absurd rfl h⟩, by simp [VsWf]⟩
  simp at hcs; subst hcs
  have hlm : len ≤ m := by rw [hmm]; split <;> omega
  have each : ∀ i, i < len → ∃ q : V3, w.cell? (a.add (i * 3)) = some (.int .i64 q.k) ∧ w.cell? (a.add (i * 3 + 1)) = some (.int .i64 q.n) ∧ w.cell? (a.add (i * 3 + 2)) = some (.string q.s) ∧ q.wf := by
    intro i hi
    obtain ⟨cs', h1, h2⟩ := hx i (by omega)
    rw [ce] at h1
    obtain ⟨_, hlen, hcell⟩ := World.cells?_some h1
    obtain ⟨xs, k, hk, hxy, _, hxl, hf⟩ := DataW.trod_struct he h2
    match xs, hxl, cs', hlen with
    | [y0, y1, y2], _, [v0, v1, v2], _ =>
      have g0 := hf 0 F0 rfl
      have g1 := hf 1 F1 rfl
      have g2 := hf 2 F2 rfl
      simp [o0, o1, o2, c0, c1, c2] at g0 g1 g2
      have e0 := hcell 0 (by omega)
      have e1 := hcell 1 (by omega)
      have e2 := hcell 2 (by omega)
      rw [add_add] at e0 e1 e2
      obtain ⟨z0, q0, _, w0⟩ := DataW.trod_int u0 g0
      obtain ⟨z1, q1, _, w1⟩ := DataW.trod_int u1 g1
      obtain ⟨z2, q2, _, ws⟩ := DataW.trod_string u2 g2
      simp at q0 q1 q2
      subst q0 q1 q2
      exact ⟨⟨z0, z1, z2⟩, by simpa using e0, by simpa using e1, by simpa using e2, w0, w1, ws⟩
  have : Inhabited V3 := ⟨⟨0, 0, ⟨#[]⟩⟩⟩
  obtain ⟨q, hq⟩ := choose_lt each
  refine ⟨(List.range len).map q, ⟨some a, cap, by simp, by simpa using hl, hm, fun hne => ?_⟩, ?_⟩
  · have hpos : 0 < len := by
      rcases Nat.eq_zero_or_pos len with h0 | h0
      · subst h0; simp at hne
      · exact h0
    have hs : a.spot = none := by have := World.cell?_spot (hq 0 hpos).1; simpa [Addr.add] using this
    obtain ⟨b, o, sp⟩ := a
    simp at hs; subst hs
    refine ⟨b, o, rfl, ?_, fun i x hx => ?_⟩
    · have := World.block_lt_of_cell? _ _ (hq 0 hpos).1
      simpa [Addr.add] using this
    · have hi : i < len := by
        have := List.getElem?_eq_some_iff.1 hx
        obtain ⟨h1, _⟩ := this
        simpa using h1
      have ex : x = q i := by simp [hi] at hx; exact hx.symm
      subst ex
      obtain ⟨h0, h1, h2, _⟩ := hq i hi
      rw [add_plain] at h0 h1 h2
      exact ⟨h0, by simpa [Nat.add_assoc] using h1, by simpa [Nat.add_assoc] using h2⟩
  · intro y hy
    obtain ⟨i, hi, rfl⟩ := List.mem_map.1 hy
    exact (hq i (List.mem_range.1 hi)).2.2.2
/-- a slice of counted rows that came in. -/
theorem open_rows {t e e1 : TypeId} {G0 G1 F0 F1 F2 : Field} {fuel : Nat} {v : Value} {x : DataW H × List MemPlace} (ht : P.underlying t = some (.slice e)) (he : P.underlying e = some (.struct #[G0, G1]))
    (cg : P.cellsOf e = 2) (p0 : G0.offset = 0) (p1 : G1.offset = 1) (g0 : P.cellsOf G0.type = 1) (g1 : P.cellsOf G1.type = 1) (ut : P.underlying G0.type = some (.slice e1)) (un : P.underlying G1.type = some (.int .i64))
    (he1 : P.underlying e1 = some (.struct #[F0, F1, F2]))
    (ce : P.cellsOf e1 = 3) (o0 : F0.offset = 0) (o1 : F1.offset = 1) (o2 : F2.offset = 2) (c0 : P.cellsOf F0.type = 1) (c1 : P.cellsOf F1.type = 1) (c2 : P.cellsOf F2.type = 1)
    (u0 : P.underlying F0.type = some (.int .i64)) (u1 : P.underlying F1.type = some (.int .i64)) (u2 : P.underlying F2.type = some .string)
    (h : DataW.trod enc P w 0 spare held fuel t [v] = some x) : ∃ cs, RowsIs w v cs ∧ CsWf cs := by
  rcases open_slice_pairs ht he cg p0 p1 g0 g1 h with ⟨h0, _⟩ | ⟨a, len, cap, m, n, V0, V1, D0, D1, P0, P1, hcs, hb, hl, hm, hmm, rfl, hx⟩
  · simp at h0; subst h0
    exact ⟨[], ⟨none, 0, rfl, by simp, by simp, fun h => absurd rfl h⟩, by simp [CsWf]⟩
  simp at hcs; subst hcs
  have hlm : len ≤ m := by rw [hmm]; split <;> omega
  have each : ∀ i, i < len → ∃ q : Value × C2, w.cell? (a.add (i * 2)) = some q.1 ∧ RowIs w q.1 q.2.r ∧ w.cell? (a.add (i * 2 + 1)) = some (.int .i64 q.2.n) ∧ q.2.wf := by
    intro i hi
    obtain ⟨h0, h1, h2, h3⟩ := hx i (by omega)
    obtain ⟨vs, hv, hw⟩ := open_row ut he1 ce o0 o1 o2 c0 c1 c2 u0 u1 u2 h2
    obtain ⟨z1, q1, _, w1⟩ := DataW.trod_int un h3
    simp at q1
    rw [q1] at h1
    exact ⟨(V0 i, ⟨vs, z1⟩), h0, hv, h1, hw, w1⟩
  have : Inhabited (Value × C2) := ⟨⟨.nilFunc, ⟨[], 0⟩⟩⟩
  obtain ⟨q, hq⟩ := choose_lt each
  refine ⟨(List.range len).map fun i => (q i).2, ⟨some a, cap, by simp, by simpa using hl, hm, fun hne => ?_⟩, ?_⟩
  · have hpos : 0 < len := by
      rcases Nat.eq_zero_or_pos len with h0 | h0
      · subst h0; simp at hne
      · exact h0
    have hs : a.spot = none := by have := World.cell?_spot (hq 0 hpos).1; simpa [Addr.add] using this
    obtain ⟨b, o, sp⟩ := a
    simp at hs; subst hs
    refine ⟨b, o, rfl, ?_, fun i x hx => ?_⟩
    · have := World.block_lt_of_cell? _ _ (hq 0 hpos).1
      simpa [Addr.add] using this
    · have hi : i < len := by
        have := List.getElem?_eq_some_iff.1 hx
        obtain ⟨h1, _⟩ := this
        simpa using h1
      have ex : x = (q i).2 := by simp [hi] at hx; exact hx.symm
      subst ex
      obtain ⟨h0, h1, h2, _⟩ := hq i hi
      rw [add_plain] at h0 h2
      exact ⟨_, h0, h1, by simpa [Nat.add_assoc] using h2⟩
  · intro y hy
    obtain ⟨i, hi, rfl⟩ := List.mem_map.1 hy
    exact (hq i (List.mem_range.1 hi)).2.2.2
end
end Go.Proofs.Ytdkbhoichmcodaa
/- Own text. The contract of eqValue at one value twice. -/
namespace Go.Proofs.Ytdkbhoichmcodaa
open Go.RowKit
set_option maxHeartbeats 400000 in
theorem eqValue_same (k n : Int) (s : ByteArray) (w : World) :
    Calls Try.prog 103 #[(.agg #[.int .i64 k, .int .i64 n, .string s]), (.agg #[.int .i64 k, .int .i64 n, .string s])] w fun e w' => e = .returned (.bool true) ∧ Below w.heap.size w w' := by
  go_enter Try.func103, Try.ntmps103
  go_wp2
  go_returns
  exact ⟨rfl, by go_grown⟩
end Go.Proofs.Ytdkbhoichmcodaa
/- Own text. The contract of szValue: how much a value weighs. -/
namespace Go.Proofs.Ytdkbhoichmcodaa
open Go.RowKit
set_option linter.unusedVariables false
set_option maxHeartbeats 1000000 in
theorem szValue_any (k n left : Int) (s : ByteArray) (w : World) (h0 : 0 ≤ left) (h1 : left ≤ 1048576) (hs : s.size ≤ maxLen) :
    Calls Try.prog 92 #[(.agg #[.int .i64 k, .int .i64 n, .string s]), .int .i64 left] w fun e w' => e = .returned (.int .i64 (szV s left)) ∧ Below w.heap.size w w' := by
  unfold maxLen at hs
  by_cases h : left - s.size < 0
  · go_enter Try.func92, Try.ntmps92
    go_wp2
    go_returns
    exact ⟨by simp [szV, h], by go_grown⟩
  · go_enter Try.func92, Try.ntmps92
    go_wp2
    go_returns
    exact ⟨ret_int (by simp only [szV]; rw [if_neg (by omega)]), by go_grown⟩
end Go.Proofs.Ytdkbhoichmcodaa
/- Own text. The contracts of the helpers on rows: how much one weighs, that one is the same as another one. -/
namespace Go.Proofs.Ytdkbhoichmcodaa
open Go.RowKit
set_option linter.unusedVariables false
set_option maxHeartbeats 2000000 in
set_option maxRecDepth 100000 in
theorem szValueS_any (v : Value) (vs : List V3) (left : Int) (w : World) (hr : RowIs w v vs) (hw : VsWf vs) (h0 : 0 ≤ left) (h1 : left ≤ 1048576) :
    Calls Try.prog 39 #[v, .int .i64 left] w fun e w' => (∃ z : Int, e = .returned (.int .i64 z) ∧ -1 ≤ z ∧ z ≤ left ∧ (0 ≤ z → z + wt vs = left)) ∧ Below w.heap.size w w' := by
  obtain ⟨a, c, b, o, rfl, hl, hc, ha⟩ := hr.pick
  unfold maxLen at hc
  by_cases hbig : left - vs.length < 0
  · go_enter Try.func39, Try.ntmps39
    go_wp2
    go_returns
    exact ⟨⟨-1, rfl, by omega, by omega, by omega⟩, by go_grown⟩
  go_enter Try.func39, Try.ntmps39
  go_wp2
  go_loopw [1, 5] (fun l i wr => ∃ k : Nat, k ≤ vs.length ∧ i = .int .i64 k ∧ l = .int .i64 (left - vs.length - wts (vs.take k)) ∧ 0 ≤ left - vs.length - wts (vs.take k) ∧ Below w.heap.size w wr) (fun _ i _ => vs.length - (intOf i).toNat)
  case atStart => exact ⟨0, Nat.zero_le _, rfl, by simp [wts], by simp [wts]; omega, by go_grown⟩
  case round =>
    obtain ⟨k, hk, rfl, rfl, hp, hb⟩ := hrel
    by_cases hlt : k < vs.length
    · have hzb := hb.size
      obtain ⟨rfl, hblt, hL⟩ := ha k hlt
      obtain ⟨x, hx, c0, c1, c2, hbr⟩ := hL.at hblt hb hlt
      have hxs : x.s.size ≤ maxLen := (hw x (List.mem_of_getElem? hx)).2.2
      have hT : Hid (wts (vs.take (k + 1)) = wts (vs.take k) + x.s.size) := wts_take hx
      clear ha hL hw
      go_wp2_with (go_at_call 92; refine (szValue_any _ _ _ _ _ (by omega) (by omega) hxs).mono ?_; rintro e w1 ⟨rfl, hb1⟩)
      · go_returns
        exact ⟨⟨-1, rfl, by omega, by omega, by omega⟩, hb.trans (hb1.mono hb.size)⟩
      · have hs0 : szV x.s (left - vs.length - wts (vs.take k)) = left - vs.length - wts (vs.take (k + 1)) ∧ 0 ≤ left - vs.length - wts (vs.take (k + 1)) := by
          have h9 : 0 ≤ szV x.s (left - vs.length - wts (vs.take k)) := by assumption
          have hT := hT.out
          unfold szV at h9 ⊢
          split at h9
          · omega
          · rw [if_neg (by omega)]; omega
        refine ⟨⟨k + 1, hlt, by simp, by rw [hs0.1], hs0.2, hb.trans (hb1.mono hb.size)⟩, by simp [intOf]; omega⟩
    · go_wp2
      go_returns
      have hkk : k = vs.length := by omega
      subst hkk
      refine ⟨⟨_, rfl, by omega, by omega, fun _ => ?_⟩, hb⟩
      rw [List.take_length]; unfold wt; omega
set_option maxHeartbeats 2000000 in
set_option maxRecDepth 100000 in
theorem eqValueS_same (v u : Value) (vs : List V3) (w : World) (hr : RowIs w v vs) (hu : RowIs w u vs) :
    Calls Try.prog 48 #[v, u] w fun e w' => e = .returned (.bool true) ∧ Below w.heap.size w w' := by
  obtain ⟨a, c, b, o, rfl, hl, hc, ha⟩ := hr.pick
  obtain ⟨a', c', b', o', rfl, hl', hc', ha'⟩ := hu.pick
  unfold maxLen at hc hc'
  clear hr hu
  go_enter Try.func48, Try.ntmps48
  go_wp2
  go_loopw [5] (fun i wr => ∃ k : Nat, k ≤ vs.length ∧ i = .int .i64 k ∧ Below w.heap.size w wr) (fun i _ => vs.length - (intOf i).toNat)
  case atStart => exact ⟨0, Nat.zero_le _, rfl, by go_grown⟩
  case round =>
    obtain ⟨k, hk, rfl, hb⟩ := hrel
    by_cases hlt : k < vs.length
    · have hzb := hb.size
      obtain ⟨rfl, hblt, hL⟩ := ha k hlt
      obtain ⟨rfl, hblt', hL'⟩ := ha' k hlt
      obtain ⟨x, hx, c0, c1, c2, hbr⟩ := hL.at hblt hb hlt
      obtain ⟨x', hx', c0', c1', c2', hbr'⟩ := hL'.at hblt' hb hlt
      obtain rfl : x = x' := by rw [hx] at hx'; exact Option.some.inj hx'
      clear ha ha' hL hL' hx hx'
      go_wp2_with fail
      go_region_held3 (fun w' => w'.cell? ⟨b, o + k * 3, none⟩ = some (.int .i64 x.k) ∧ w'.cell? ⟨b, o + k * 3 + 1, none⟩ = some (.int .i64 x.n) ∧ w'.cell? ⟨b, o + k * 3 + 2, none⟩ = some (.string x.s) ∧ w'.cell? ⟨b', o' + k * 3, none⟩ = some (.int .i64 x.k) ∧ w'.cell? ⟨b', o' + k * 3 + 1, none⟩ = some (.int .i64 x.n) ∧ w'.cell? ⟨b', o' + k * 3 + 2, none⟩ = some (.string x.s)) (refine ⟨?_, ?_, ?_, ?_, ?_, ?_⟩ <;> first | (go_simp; done) | (exact cell_later (by assumption) (by go_simp))) (first | (go_at_call 103; refine (eqValue_same _ _ _ _).mono ?_; rintro e w1 ⟨rfl, hb1⟩))
      go_wp2
      go_roundw
      case rel => exact ⟨k + 1, hlt, by simp, by repeat (first | exact Below.refl _ _ | refine Below.drew ?_ | refine Below.alloc ?_ (by first | (simp; done) | (simp; omega) | omega) _ | refine Below.setCell ?_ (by first | (simp; done) | (simp; omega) | omega) _ | refine bstep (by assumption) (by first | (simp; done) | (simp; omega) | omega) ?_)⟩
      case measure => simp [intOf]; omega
    · go_wp2
      go_returns
      exact ⟨rfl, hb⟩
end Go.Proofs.Ytdkbhoichmcodaa
/- Own text. The contract of toValue. -/
namespace Go.Proofs.Ytdkbhoichmcodaa
open Go.RowKit
set_option maxHeartbeats 400000 in
theorem toValue_any (k n : Int) (s : ByteArray) (w : World) :
    Calls Try.prog 95 #[(.agg #[.int .i64 k, .int .i64 n, .string s])] w fun e w' => e = .returned (.agg #[.int .i64 k, .int .i64 n, .string s]) ∧ Below w.heap.size w w' := by
  go_enter Try.func95, Try.ntmps95
  go_wp2
  go_returns
  refine ⟨rfl, ?_⟩
  go_grown
end Go.Proofs.Ytdkbhoichmcodaa
/- Own text. The contract of toValueS: a new row with the same values. -/
namespace Go.Proofs.Ytdkbhoichmcodaa
open Go.RowKit
set_option linter.unusedVariables false
theorem Try.infoVal : (Try.prog.info? 133).map (fun i => (i.zero, i.size, i.bytes)) = some (some (.agg #[.int .i64 0, .int .i64 0, .string ⟨#[]⟩]), 3, 32) := by kernel_rfl
set_option maxHeartbeats 2000000 in
set_option maxRecDepth 100000 in
theorem toValueS_any (v : Value) (vs : List V3) (w : World) (hr : RowIs w v vs) (hn : vs.length ≤ 1048576) :
    Calls Try.prog 42 #[v] w fun e w' => e = .returned (.slice (some ⟨w.heap.size, 0, none⟩) vs.length vs.length) ∧ w'.rowIs w.heap.size 133 (vs.length * 3) (cf vs) ∧ Below w.heap.size w w' := by
  obtain ⟨a, c, b, o, rfl, hl, hc, ha⟩ := hr.pick
  unfold maxLen at hc
  clear hr
  have hmk := run_make_wide (P := Try.prog) 64 133 _ 3 32 Try.underlying64 Try.infoVal vs.length (by omega) (by omega)
  go_enter Try.func42, Try.ntmps42
  go_wp2
  go_loopw [4] (fun i wr => ∃ k : Nat, k ≤ vs.length ∧ i = .int .i64 k ∧ Below w.heap.size w wr ∧ Half wr w.heap.size 133 vs k) (fun i _ => vs.length - (intOf i).toNat)
  case atStart => exact ⟨0, Nat.zero_le _, rfl, by go_grown, half_made _ _ _ _⟩
  case round =>
    obtain ⟨k, hk, rfl, hb, hH⟩ := hrel
    clear hmk
    by_cases hlt : k < vs.length
    · have hzb := hb.size
      obtain ⟨rfl, hblt, hL⟩ := ha k hlt
      obtain ⟨x, hx, c0, c1, c2, hbr⟩ := hL.at hblt hb hlt
      have HX : Hid (vs[k]? = some x) := hx
      have hBr := (hH.cells hlt).2.2.2.2
      clear ha hL hx
      go_wp2_with (go_at_call 95; refine (toValue_any _ _ _ _).mono ?_; rintro e w1 ⟨rfl, hb1⟩; have hz1 := hb1.size; have hH1 := hH.of_block (hb1.block _ hBr); obtain ⟨⟨y0, g0⟩, ⟨y1, g1⟩, ⟨y2, g2⟩, gf, gs⟩ := hH1.cells hlt)
      exact ⟨⟨k + 1, hlt, by simp, by repeat (first | exact Below.refl _ _ | refine Below.drew ?_ | refine Below.alloc ?_ (by first | (simp; done) | (simp; omega) | omega) _ | refine Below.setCell ?_ (by first | (simp; done) | (simp; omega) | omega) _ | refine bstep (by assumption) (by first | (simp; done) | (simp; omega) | omega) ?_), hH1.step HX.out⟩, by simp [intOf]; omega⟩
    · go_wp2
      go_returns
      obtain rfl : k = vs.length := by omega
      exact ⟨rfl, hH.done, hb⟩
/-- .. in plain words. -/
theorem toValueS_row (v : Value) (vs : List V3) (w : World) (hr : RowIs w v vs) (hn : vs.length ≤ 1048576) :
    Calls Try.prog 42 #[v] w fun e w' => (∃ u, e = .returned u ∧ RowIs w' u vs) ∧ Below w.heap.size w w' :=
  (toValueS_any v vs w hr hn).mono fun e w' ⟨he, h, hb⟩ => ⟨⟨_, he, rowIs_row h (Nat.le_refl _) (by unfold maxLen; omega)⟩, hb⟩
end Go.Proofs.Ytdkbhoichmcodaa
/- Own text. The contracts of the helpers on bags: how much one weighs, one made anew, that one is the same as another one. -/
namespace Go.Proofs.Ytdkbhoichmcodaa
open Go.RowKit
set_option linter.unusedVariables false
theorem RowsIs.pick {w : World} {v : Value} {cs : List C2} (h : RowsIs w v cs) :
    ∃ a c b o, v = .slice a cs.length c ∧ cs.length ≤ c ∧ c ≤ maxLen ∧ ∀ k, k < cs.length → a = some ⟨b, o, none⟩ ∧ b < w.heap.size ∧ CLies w b o cs := by
  obtain ⟨a, c, rfl, hl, hc, h⟩ := h
  by_cases hne : cs = []
  · exact ⟨a, c, 0, 0, rfl, hl, hc, fun k hk => by rw [hne] at hk; simp at hk⟩
  · obtain ⟨b, o, h⟩ := h hne
    exact ⟨a, c, b, o, rfl, hl, hc, fun _ _ => h⟩
theorem RowIs.shape {w : World} {v : Value} {vs : List V3} (h : RowIs w v vs) : ∃ a l c, v = .slice a l c := by
  obtain ⟨a, c, h, _⟩ := h
  exact ⟨a, _, c, h⟩
theorem RowsIs.shape {w : World} {v : Value} {cs : List C2} (h : RowsIs w v cs) : ∃ a l c, v = .slice a l c := by
  obtain ⟨a, c, h, _⟩ := h
  exact ⟨a, _, c, h⟩
theorem CLies.at {w w' : World} {b o : Nat} {cs : List C2} (h : CLies w b o cs) (hlt : b < w.heap.size) (hb : Below w.heap.size w w') {k : Nat} (hk : k < cs.length) :
    ∃ x v, cs[k]? = some x ∧ w'.cell? ⟨b, o + k * 2, none⟩ = some v ∧ RowIs w' v x.r ∧ w'.cell? ⟨b, o + k * 2 + 1, none⟩ = some (.int .i64 x.n) ∧ b < w'.heap.size := by
  obtain ⟨v, h0, h1, h2⟩ := h.below hb hlt k cs[k] (by simp [hk])
  exact ⟨cs[k], v, by simp [hk], h0, h1, h2, Nat.lt_of_lt_of_le hlt hb.size⟩
/-- what the rows of a bag weigh. -/
def wtcs (cs : List C2) : Nat := (cs.map fun x => wt x.r).sum
def wtb (cs : List C2) : Nat := cs.length + wtcs cs
theorem wtcs_take {cs : List C2} {k : Nat} {x : C2} (h : cs[k]? = some x) : wtcs (cs.take (k + 1)) = wtcs (cs.take k) + wt x.r := by
  unfold wtcs
  obtain ⟨hk, rfl⟩ := List.getElem?_eq_some_iff.1 h
  rw [List.take_succ_eq_append_getElem hk, List.map_append, List.sum_append]
  simp only [List.map_cons, List.map_nil, List.sum_cons, List.sum_nil, Nat.add_zero]
theorem wt_mem {cs : List C2} {x : C2} (h : x ∈ cs) : wt x.r ≤ wtcs cs := by
  unfold wtcs
  induction cs with
  | nil => cases h
  | cons y ys ih =>
    simp only [List.map_cons, List.sum_cons]
    rcases List.mem_cons.1 h with rfl | h
    · omega
    · have := ih h; omega
set_option maxHeartbeats 1000000 in
theorem szCounted_any (v : Value) (r : List V3) (n left : Int) (w : World) (hr : RowIs w v r) (hw : VsWf r) (h0 : 0 ≤ left) (h1 : left ≤ 1048576) :
    Calls Try.prog 159 #[.agg #[v, .int .i64 n], .int .i64 left] w fun e w' => (∃ z : Int, e = .returned (.int .i64 z) ∧ -1 ≤ z ∧ z ≤ left ∧ (0 ≤ z → z + wt r = left)) ∧ Below w.heap.size w w' := by
  have hb0 : ∀ o, Below w.heap.size w (w.alloc o) := fun o => (Below.refl _ _).alloc (Nat.le_refl _) o
  obtain ⟨a, c, hv, _⟩ := hr.pick
  go_enter Try.func159, Try.ntmps159
  go_wp2_with fail
  refine (szValueS_any v r left _ (hr.below (hb0 _)) hw h0 h1).mono ?_
  rintro e w1 ⟨⟨z1, rfl, l1, g1, s1⟩, hb1⟩
  have hz1 := hb1.size
  simp only [World.size_alloc] at hz1
  by_cases hn1 : z1 < 0
  · go_wp2_with fail
    go_returns
    exact ⟨⟨-1, rfl, by omega, by omega, by omega⟩, by repeat (first | exact Below.refl _ _ | refine Below.drew ?_ | refine Below.alloc ?_ (by first | (simp; done) | (simp; omega) | omega) _ | refine Below.setCell ?_ (by first | (simp; done) | (simp; omega) | omega) _ | refine bstep (by assumption) (by first | (simp; done) | (simp; omega) | omega) ?_)⟩
  · go_wp2_with fail
    go_returns
    exact ⟨⟨z1, rfl, by omega, by omega, s1⟩, by repeat (first | exact Below.refl _ _ | refine Below.drew ?_ | refine Below.alloc ?_ (by first | (simp; done) | (simp; omega) | omega) _ | refine Below.setCell ?_ (by first | (simp; done) | (simp; omega) | omega) _ | refine bstep (by assumption) (by first | (simp; done) | (simp; omega) | omega) ?_)⟩
set_option maxHeartbeats 2000000 in
set_option maxRecDepth 100000 in
theorem szCountedS_any (v : Value) (cs : List C2) (left : Int) (w : World) (hr : RowsIs w v cs) (hw : CsWf cs) (h0 : 0 ≤ left) (h1 : left ≤ 1048576) :
    Calls Try.prog 138 #[v, .int .i64 left] w fun e w' => (∃ z : Int, e = .returned (.int .i64 z) ∧ -1 ≤ z ∧ z ≤ left ∧ (0 ≤ z → z + wtb cs = left)) ∧ Below w.heap.size w w' := by
  obtain ⟨a, c, b, o, rfl, hl, hc, ha⟩ := hr.pick
  unfold maxLen at hc
  by_cases hbig : left - cs.length < 0
  · go_enter Try.func138, Try.ntmps138
    go_wp2
    go_returns
    exact ⟨⟨-1, rfl, by omega, by omega, by omega⟩, by go_grown⟩
  go_enter Try.func138, Try.ntmps138
  go_wp2
  go_loopw [1, 5] (fun l i wr => ∃ k : Nat, k ≤ cs.length ∧ i = .int .i64 k ∧ l = .int .i64 (left - cs.length - wtcs (cs.take k)) ∧ 0 ≤ left - cs.length - wtcs (cs.take k) ∧ Below w.heap.size w wr) (fun _ i _ => cs.length - (intOf i).toNat)
  case atStart => exact ⟨0, Nat.zero_le _, rfl, by simp [wtcs], by simp [wtcs]; omega, by go_grown⟩
  case round =>
    obtain ⟨k, hk, rfl, rfl, hp, hb⟩ := hrel
    by_cases hlt : k < cs.length
    · have hzb := hb.size
      obtain ⟨rfl, hblt, hL⟩ := ha k hlt
      obtain ⟨x, u, hx, c0, hR, c1, hbr⟩ := hL.at hblt hb hlt
      have hxw : VsWf x.r := (hw x (List.mem_of_getElem? hx)).1
      have hT : Hid (wtcs (cs.take (k + 1)) = wtcs (cs.take k) + wt x.r) := wtcs_take hx
      have hp1 : left - cs.length - wtcs (cs.take k) ≤ 1048576 := by omega
      clear ha hL hw hx
      go_wp2_with (go_at_call 159; refine (szCounted_any _ _ _ _ _ hR hxw hp hp1).mono ?_; rintro e w1 ⟨⟨z1, rfl, l1, g1, s1⟩, hb1⟩)
      · go_returns
        exact ⟨⟨-1, rfl, by omega, by omega, by omega⟩, hb.trans (hb1.mono hb.size)⟩
      · have h9 : 0 ≤ z1 := by assumption
        have e1 := s1 h9
        have hT := hT.out
        refine ⟨⟨k + 1, hlt, by simp, by congr 1; omega, by omega, hb.trans (hb1.mono hb.size)⟩, by simp [intOf]; omega⟩
    · go_wp2
      go_returns
      have hkk : k = cs.length := by omega
      subst hkk
      refine ⟨⟨_, rfl, by omega, by omega, fun _ => ?_⟩, hb⟩
      rw [List.take_length]; unfold wtb; omega
set_option maxHeartbeats 1000000 in
theorem szBag_any (W : Int) (v : Value) (cs : List C2) (left : Int) (w : World) (hr : RowsIs w v cs) (hw : CsWf cs) (h0 : 0 ≤ left) (h1 : left ≤ 1048576) :
    Calls Try.prog 106 #[.agg #[.int .i64 W, v], .int .i64 left] w fun e w' => (∃ z : Int, e = .returned (.int .i64 z) ∧ -1 ≤ z ∧ z ≤ left ∧ (0 ≤ z → z + wtb cs = left)) ∧ Below w.heap.size w w' := by
  have hb0 : ∀ o, Below w.heap.size w (w.alloc o) := fun o => (Below.refl _ _).alloc (Nat.le_refl _) o
  go_enter Try.func106, Try.ntmps106
  go_wp2_with fail
  refine (szCountedS_any v cs left _ (hr.below (hb0 _)) hw h0 h1).mono ?_
  rintro e w1 ⟨⟨z1, rfl, l1, g1, s1⟩, hb1⟩
  have hz1 := hb1.size
  simp only [World.size_alloc] at hz1
  by_cases hn1 : z1 < 0
  · go_wp2_with fail
    go_returns
    exact ⟨⟨-1, rfl, by omega, by omega, by omega⟩, by repeat (first | exact Below.refl _ _ | refine Below.drew ?_ | refine Below.alloc ?_ (by first | (simp; done) | (simp; omega) | omega) _ | refine Below.setCell ?_ (by first | (simp; done) | (simp; omega) | omega) _ | refine bstep (by assumption) (by first | (simp; done) | (simp; omega) | omega) ?_)⟩
  · go_wp2_with fail
    go_returns
    exact ⟨⟨z1, rfl, by omega, by omega, s1⟩, by repeat (first | exact Below.refl _ _ | refine Below.drew ?_ | refine Below.alloc ?_ (by first | (simp; done) | (simp; omega) | omega) _ | refine Below.setCell ?_ (by first | (simp; done) | (simp; omega) | omega) _ | refine bstep (by assumption) (by first | (simp; done) | (simp; omega) | omega) ?_)⟩
set_option maxHeartbeats 1000000 in
theorem eqCounted_same (v u : Value) (r : List V3) (n : Int) (w : World) (hr : RowIs w v r) (hu : RowIs w u r) :
    Calls Try.prog 102 #[.agg #[v, .int .i64 n], .agg #[u, .int .i64 n]] w fun e w' => e = .returned (.bool true) ∧ Below w.heap.size w w' := by
  have hb0 : ∀ o p, Below w.heap.size w ((w.alloc o).alloc p) := fun o p => ((Below.refl _ _).alloc (Nat.le_refl _) o).alloc (by simp) p
  go_enter Try.func102, Try.ntmps102
  go_wp2_with fail
  refine (eqValueS_same v u r _ (hr.below (hb0 _ _)) (hu.below (hb0 _ _))).mono ?_
  rintro e w1 ⟨rfl, hb1⟩
  have hz1 := hb1.size
  simp only [World.size_alloc] at hz1
  have q0 : w1.cell? ⟨w.heap.size, 1, none⟩ = some (.int .i64 n) := cell_later hb1 (by go_simp)
  have q1 : w1.cell? ⟨w.heap.size + 1, 1, none⟩ = some (.int .i64 n) := cell_later hb1 (by go_simp)
  go_wp2
  go_returns
  exact ⟨rfl, by repeat (first | exact Below.refl _ _ | refine Below.drew ?_ | refine Below.alloc ?_ (by first | (simp; done) | (simp; omega) | omega) _ | refine Below.setCell ?_ (by first | (simp; done) | (simp; omega) | omega) _ | refine bstep (by assumption) (by first | (simp; done) | (simp; omega) | omega) ?_)⟩
set_option maxHeartbeats 2000000 in
set_option maxRecDepth 100000 in
theorem eqCountedS_same (v u : Value) (cs : List C2) (w : World) (hr : RowsIs w v cs) (hu : RowsIs w u cs) :
    Calls Try.prog 47 #[v, u] w fun e w' => e = .returned (.bool true) ∧ Below w.heap.size w w' := by
  obtain ⟨a, c, b, o, rfl, hl, hc, ha⟩ := hr.pick
  obtain ⟨a', c', b', o', rfl, hl', hc', ha'⟩ := hu.pick
  unfold maxLen at hc hc'
  clear hr hu
  go_enter Try.func47, Try.ntmps47
  go_wp2
  go_loopw [5] (fun i wr => ∃ k : Nat, k ≤ cs.length ∧ i = .int .i64 k ∧ Below w.heap.size w wr) (fun i _ => cs.length - (intOf i).toNat)
  case atStart => exact ⟨0, Nat.zero_le _, rfl, by go_grown⟩
  case round =>
    obtain ⟨k, hk, rfl, hb⟩ := hrel
    by_cases hlt : k < cs.length
    · have hzb := hb.size
      obtain ⟨rfl, hblt, hL⟩ := ha k hlt
      obtain ⟨rfl, hblt', hL'⟩ := ha' k hlt
      obtain ⟨x, v, hx, c0, hR, c1, hbr⟩ := hL.at hblt hb hlt
      obtain ⟨x', u, hx', c0', hR', c1', hbr'⟩ := hL'.at hblt' hb hlt
      obtain rfl : x = x' := by rw [hx] at hx'; exact Option.some.inj hx'
      clear ha ha' hL hL' hx hx'
      go_wp2_with fail
      go_region_held3 (fun w' => w'.cell? ⟨b, o + k * 2, none⟩ = some v ∧ w'.cell? ⟨b, o + k * 2 + 1, none⟩ = some (.int .i64 x.n) ∧ w'.cell? ⟨b', o' + k * 2, none⟩ = some u ∧ w'.cell? ⟨b', o' + k * 2 + 1, none⟩ = some (.int .i64 x.n)) (refine ⟨?_, ?_, ?_, ?_⟩ <;> first | (go_simp; done) | (exact cell_later (by assumption) (by go_simp))) (first | (go_at_call 102; refine (eqCounted_same v u x.r x.n _ (hR.below (by repeat (first | exact Below.refl _ _ | refine Below.drew ?_ | refine Below.alloc ?_ (by first | (simp; done) | (simp; omega) | omega) _ | refine Below.setCell ?_ (by first | (simp; done) | (simp; omega) | omega) _ | refine bstep (by assumption) (by first | (simp; done) | (simp; omega) | omega) ?_))) (hR'.below (by repeat (first | exact Below.refl _ _ | refine Below.drew ?_ | refine Below.alloc ?_ (by first | (simp; done) | (simp; omega) | omega) _ | refine Below.setCell ?_ (by first | (simp; done) | (simp; omega) | omega) _ | refine bstep (by assumption) (by first | (simp; done) | (simp; omega) | omega) ?_)))).mono ?_; rintro e w1 ⟨rfl, hb1⟩))
      go_wp2
      go_roundw
      case rel => exact ⟨k + 1, hlt, by simp, by repeat (first | exact Below.refl _ _ | refine Below.drew ?_ | refine Below.alloc ?_ (by first | (simp; done) | (simp; omega) | omega) _ | refine Below.setCell ?_ (by first | (simp; done) | (simp; omega) | omega) _ | refine bstep (by assumption) (by first | (simp; done) | (simp; omega) | omega) ?_)⟩
      case measure => simp [intOf]; omega
    · go_wp2
      go_returns
      exact ⟨rfl, hb⟩
set_option maxHeartbeats 1000000 in
theorem eqBag_same (W : Int) (v u : Value) (cs : List C2) (w : World) (hr : RowsIs w v cs) (hu : RowsIs w u cs) :
    Calls Try.prog 14 #[.agg #[.int .i64 W, v], .agg #[.int .i64 W, u]] w fun e w' => e = .returned (.bool true) ∧ Below w.heap.size w w' := by
  have hb0 : ∀ o p, Below w.heap.size w ((w.alloc o).alloc p) := fun o p => ((Below.refl _ _).alloc (Nat.le_refl _) o).alloc (by simp) p
  go_enter Try.func14, Try.ntmps14
  go_wp2_with fail
  refine (eqCountedS_same v u cs _ (hr.below (hb0 _ _)) (hu.below (hb0 _ _))).mono ?_
  rintro e w1 ⟨rfl, hb1⟩
  have hz1 := hb1.size
  simp only [World.size_alloc] at hz1
  go_wp2
  go_returns
  exact ⟨rfl, by repeat (first | exact Below.refl _ _ | refine Below.drew ?_ | refine Below.alloc ?_ (by first | (simp; done) | (simp; omega) | omega) _ | refine Below.setCell ?_ (by first | (simp; done) | (simp; omega) | omega) _ | refine bstep (by assumption) (by first | (simp; done) | (simp; omega) | omega) ?_)⟩
end Go.Proofs.Ytdkbhoichmcodaa
/- Own text. Relations as they lie in memory: a slice of structs of three cells each (the name, the width, the rows); how they are read off a slice that came in; what they weigh. -/
namespace Go.Proofs.Ytdkbhoichmcodaa
open Go.RowKit Go.Deep Go.ChangeShapes Go.WideShapes
set_option linter.unusedVariables false
/-- a relation: its name, its bag's width and rows. -/
structure R3 where
  s : ByteArray
  W : Int
  cs : List C2
def R3.wf (x : R3) : Prop := x.s.size ≤ maxLen ∧ (Lit.int .i64 x.W).wf = true ∧ CsWf x.cs
def RsWf (rs : List R3) : Prop := ∀ y ∈ rs, y.wf
/-- the relations rs lie in w from cell o of block b on. -/
def RLies (w : World) (b o : Nat) (rs : List R3) : Prop :=
  ∀ i x, rs[i]? = some x → ∃ v, w.cell? ⟨b, o + i * 3, none⟩ = some (.string x.s) ∧ w.cell? ⟨b, o + i * 3 + 1, none⟩ = some (.int .i64 x.W) ∧ w.cell? ⟨b, o + i * 3 + 2, none⟩ = some v ∧ RowsIs w v x.cs
/-- the slice value v has the relations rs. -/
def RelsIs (w : World) (v : Value) (rs : List R3) : Prop :=
  ∃ a c, v = .slice a rs.length c ∧ rs.length ≤ c ∧ c ≤ maxLen ∧ (rs ≠ [] → ∃ b o, a = some ⟨b, o, none⟩ ∧ b < w.heap.size ∧ RLies w b o rs)
theorem RLies.below {w w' : World} {b o : Nat} {rs : List R3} (h : RLies w b o rs) (hb : Below w.heap.size w w') (hN : b < w.heap.size) : RLies w' b o rs := fun i x hx => by
  obtain ⟨v, h0, h1, h2, h3⟩ := h i x hx
  exact ⟨v, (hb.cell (p := ⟨b, o + i * 3, none⟩) hN).trans h0, (hb.cell (p := ⟨b, o + i * 3 + 1, none⟩) hN).trans h1, (hb.cell (p := ⟨b, o + i * 3 + 2, none⟩) hN).trans h2, h3.below hb⟩
theorem RelsIs.below {w w' : World} {v : Value} {rs : List R3} (h : RelsIs w v rs) (hb : Below w.heap.size w w') : RelsIs w' v rs := by
  obtain ⟨a, c, rfl, hl, hc, h⟩ := h
  refine ⟨a, c, rfl, hl, hc, fun hne => ?_⟩
  obtain ⟨b, o, rfl, hlt, hL⟩ := h hne
  exact ⟨b, o, rfl, Nat.lt_of_lt_of_le hlt hb.size, hL.below hb hlt⟩
theorem RelsIs.shape {w : World} {v : Value} {rs : List R3} (h : RelsIs w v rs) : ∃ a l c, v = .slice a l c := by
  obtain ⟨a, c, h, _⟩ := h
  exact ⟨a, _, c, h⟩
theorem RelsIs.pick {w : World} {v : Value} {rs : List R3} (h : RelsIs w v rs) :
    ∃ a c b o, v = .slice a rs.length c ∧ rs.length ≤ c ∧ c ≤ maxLen ∧ ∀ k, k < rs.length → a = some ⟨b, o, none⟩ ∧ b < w.heap.size ∧ RLies w b o rs := by
  obtain ⟨a, c, rfl, hl, hc, h⟩ := h
  by_cases hne : rs = []
  · exact ⟨a, c, 0, 0, rfl, hl, hc, fun k hk => by rw [hne] at hk; simp at hk⟩
  · obtain ⟨b, o, h⟩ := h hne
    exact ⟨a, c, b, o, rfl, hl, hc, fun _ _ => h⟩
theorem RLies.at {w w' : World} {b o : Nat} {rs : List R3} (h : RLies w b o rs) (hlt : b < w.heap.size) (hb : Below w.heap.size w w') {k : Nat} (hk : k < rs.length) :
    ∃ x v, rs[k]? = some x ∧ w'.cell? ⟨b, o + k * 3, none⟩ = some (.string x.s) ∧ w'.cell? ⟨b, o + k * 3 + 1, none⟩ = some (.int .i64 x.W) ∧ w'.cell? ⟨b, o + k * 3 + 2, none⟩ = some v ∧ RowsIs w' v x.cs ∧ b < w'.heap.size := by
  obtain ⟨v, h0, h1, h2, h3⟩ := h.below hb hlt k rs[k] (by simp [hk])
  exact ⟨rs[k], v, by simp [hk], h0, h1, h2, h3, Nat.lt_of_lt_of_le hlt hb.size⟩
/-- what relations weigh. -/
def wtr (x : R3) : Nat := x.s.size + wtb x.cs
def wtrs (rs : List R3) : Nat := (rs.map wtr).sum
def wtR (rs : List R3) : Nat := rs.length + wtrs rs
theorem wtrs_take {rs : List R3} {k : Nat} {x : R3} (h : rs[k]? = some x) : wtrs (rs.take (k + 1)) = wtrs (rs.take k) + wtr x := by
  unfold wtrs
  obtain ⟨hk, rfl⟩ := List.getElem?_eq_some_iff.1 h
  rw [List.take_succ_eq_append_getElem hk, List.map_append, List.sum_append]
  simp only [List.map_cons, List.map_nil, List.sum_cons, List.sum_nil, Nat.add_zero]
theorem wtr_mem {rs : List R3} {x : R3} (h : x ∈ rs) : wtr x ≤ wtrs rs := by
  unfold wtrs
  induction rs with
  | nil => cases h
  | cons y ys ih =>
    simp only [List.map_cons, List.sum_cons]
    rcases List.mem_cons.1 h with rfl | h
    · omega
    · have := ih h; omega
section
variable {H : Type} {enc : TypeId × Value → H} {P : Program} {w : World} {spare : Nat → Bool} {held : Bool}
/-- a slice of relations that came in. -/
theorem open_rels {t r e e1 : TypeId} {K0 K1 L0 L1 G0 G1 F0 F1 F2 : Field} {fuel : Nat} {v : Value} {x : DataW H × List MemPlace} (hst : P.underlying t = some (.slice r)) (hr : P.underlying r = some (.struct #[K0, K1])) (cr : P.cellsOf r = 3)
    (k0 : K0.offset = 0) (k1 : K1.offset = 1) (kc0 : P.cellsOf K0.type = 1) (kc1 : P.cellsOf K1.type = 2) (ks : P.underlying K0.type = some .string) (kb : P.underlying K1.type = some (.struct #[L0, L1]))
    (l0 : L0.offset = 0) (l1 : L1.offset = 1) (lc0 : P.cellsOf L0.type = 1) (lc1 : P.cellsOf L1.type = 1) (li : P.underlying L0.type = some (.int .i64))
    (ht : P.underlying L1.type = some (.slice e)) (he : P.underlying e = some (.struct #[G0, G1]))
    (cg : P.cellsOf e = 2) (p0 : G0.offset = 0) (p1 : G1.offset = 1) (g0 : P.cellsOf G0.type = 1) (g1 : P.cellsOf G1.type = 1) (ut : P.underlying G0.type = some (.slice e1)) (un : P.underlying G1.type = some (.int .i64))
    (he1 : P.underlying e1 = some (.struct #[F0, F1, F2]))
    (ce : P.cellsOf e1 = 3) (o0 : F0.offset = 0) (o1 : F1.offset = 1) (o2 : F2.offset = 2) (c0 : P.cellsOf F0.type = 1) (c1 : P.cellsOf F1.type = 1) (c2 : P.cellsOf F2.type = 1)
    (u0 : P.underlying F0.type = some (.int .i64)) (u1 : P.underlying F1.type = some (.int .i64)) (u2 : P.underlying F2.type = some .string)
    (h : DataW.trod enc P w 0 spare held fuel t [v] = some x) : ∃ rs, RelsIs w v rs ∧ RsWf rs := by
  rcases open_slice hst h with ⟨h0, _⟩ | ⟨a, len, cap, m, n, D, Pl, hcs, hb, hl, hm, hmm, rfl, hx⟩
  · simp at h0; subst h0
    exact ⟨[], ⟨none, 0, rfl, by simp, by simp, fun h => absurd rfl h⟩, by simp [RsWf]⟩
  simp at hcs; subst hcs
  have hlm : len ≤ m := by rw [hmm]; split <;> omega
  have each : ∀ i, i < len → ∃ q : Value × R3, w.cell? (a.add (i * 3)) = some (.string q.2.s) ∧ w.cell? (a.add (i * 3 + 1)) = some (.int .i64 q.2.W) ∧ w.cell? (a.add (i * 3 + 2)) = some q.1 ∧ RowsIs w q.1 q.2.cs ∧ q.2.wf := by
    intro i hi
    obtain ⟨cs', h1, h2⟩ := hx i (by omega)
    rw [cr] at h1
    obtain ⟨_, hlen, hcell⟩ := World.cells?_some h1
    obtain ⟨xs, k, hk, hxy, _, hxl, hf⟩ := DataW.trod_struct hr h2
    match xs, hxl, cs', hlen with
    | [y0, y1], _, [v0, v1, v2], _ =>
      have f0 := hf 0 K0 rfl
      have f1 := hf 1 K1 rfl
      simp [k0, k1, kc0, kc1] at f0 f1
      obtain ⟨ys, k', hk', hyy, _, hyl, hg⟩ := DataW.trod_struct kb f1
      match ys, hyl with
      | [z0, z1], _ =>
        have q0 := hg 0 L0 rfl
        have q1 := hg 1 L1 rfl
        simp [l0, l1, lc0, lc1] at q0 q1
        have e0 := hcell 0 (by omega)
        have e1 := hcell 1 (by omega)
        have e2 := hcell 2 (by omega)
        rw [add_add] at e0 e1 e2
        obtain ⟨s0, r0, _, ws⟩ := DataW.trod_string ks f0
        obtain ⟨i0, r1, _, wi⟩ := DataW.trod_int li q0
        simp at r0 r1
        subst r0 r1
        obtain ⟨cs0, hr0, hw0⟩ := open_rows ht he cg p0 p1 g0 g1 ut un he1 ce o0 o1 o2 c0 c1 c2 u0 u1 u2 q1
        exact ⟨(v2, ⟨s0, i0, cs0⟩), by simpa using e0, by simpa using e1, by simpa using e2, hr0, ws, wi, hw0⟩
  have : Inhabited (Value × R3) := ⟨⟨.nilFunc, ⟨⟨#[]⟩, 0, []⟩⟩⟩
  obtain ⟨q, hq⟩ := choose_lt each
  refine ⟨(List.range len).map fun i => (q i).2, ⟨some a, cap, by simp, by simpa using hl, hm, fun hne => ?_⟩, ?_⟩
  · have hpos : 0 < len := by
      rcases Nat.eq_zero_or_pos len with h0 | h0
      · subst h0; simp at hne
      · exact h0
    have hs : a.spot = none := by have := World.cell?_spot (hq 0 hpos).1; simpa [Addr.add] using this
    obtain ⟨b, o, sp⟩ := a
    simp at hs; subst hs
    refine ⟨b, o, rfl, ?_, fun i x hx => ?_⟩
    · have := World.block_lt_of_cell? _ _ (hq 0 hpos).1
      simpa [Addr.add] using this
    · have hi : i < len := by
        have := List.getElem?_eq_some_iff.1 hx
        obtain ⟨h1, _⟩ := this
        simpa using h1
      have ex : x = (q i).2 := by simp [hi] at hx; exact hx.symm
      subst ex
      obtain ⟨h0, h1, h2, h3, _⟩ := hq i hi
      rw [add_plain] at h0 h1 h2
      exact ⟨_, h0, by simpa [Nat.add_assoc] using h1, by simpa [Nat.add_assoc] using h2, h3⟩
  · intro y hy
    obtain ⟨i, hi, rfl⟩ := List.mem_map.1 hy
    exact (hq i (List.mem_range.1 hi)).2.2.2.2
end
end Go.Proofs.Ytdkbhoichmcodaa
/- Own text. Blocks: what a cell and a mark are where a block stays; the blocks of a call's own. -/
namespace Go.Proofs.Ytdkbhoichmcodaa
open Go.RowKit Go.Deep
set_option linter.unusedVariables false
theorem cell_blk {w w' : World} {b o : Nat} (h : w'.heap[b]? = w.heap[b]?) : w'.cell? ⟨b, o, none⟩ = w.cell? ⟨b, o, none⟩ := by
  simp only [World.cell?, h]
theorem frozen_blk {w w' : World} {b o : Nat} (h : w'.heap[b]? = w.heap[b]?) : w'.frozen? ⟨b, o, none⟩ = w.frozen? ⟨b, o, none⟩ := by
  simp only [World.frozen?, h]
/-- the blocks of F are the call's own from N on: each once, not frozen. -/
def OwnN (w : World) (N : Nat) (F : List Nat) : Prop := F.Nodup ∧ ∀ b ∈ F, N ≤ b ∧ ∀ o, w.frozen? ⟨b, o, none⟩ = false
theorem OwnN.keep {w w' : World} {N : Nat} {F : List Nat} (h : OwnN w N F) (hF : ∀ b ∈ F, w'.heap[b]? = w.heap[b]?) : OwnN w' N F :=
  ⟨h.1, fun b hb => ⟨(h.2 b hb).1, fun o => (frozen_blk (hF b hb)).trans ((h.2 b hb).2 o)⟩⟩
theorem OwnN.below {w w' : World} {N : Nat} {F : List Nat} (h : OwnN w N F) (hl : ∀ b ∈ F, b < w.heap.size) (hb : Below w.heap.size w w') : OwnN w' N F := h.keep fun b hF => hb.block b (hl b hF)
theorem OwnN.app {w : World} {N M : Nat} {F G : List Nat} (h : OwnN w N F) (k : OwnN w M G) (hM : ∀ b ∈ F, b < M) (hNM : N ≤ M) : OwnN w N (F ++ G) := by
  refine ⟨List.nodup_append.2 ⟨h.1, k.1, fun a ha b hb => ?_⟩, fun b hb => ?_⟩
  · rintro rfl
    have := hM a ha
    have := (k.2 a hb).1
    omega
  · rcases List.mem_append.1 hb with hb | hb
    · exact h.2 b hb
    · exact ⟨Nat.le_trans hNM (k.2 b hb).1, (k.2 b hb).2⟩
theorem OwnN.weak {w : World} {N M : Nat} {F : List Nat} (h : OwnN w N F) (hM : M ≤ N) : OwnN w M F := ⟨h.1, fun b hb => ⟨Nat.le_trans hM (h.2 b hb).1, (h.2 b hb).2⟩⟩
end Go.Proofs.Ytdkbhoichmcodaa
/- Own text. A slice of texts with the block that it lies in; how one is read off what came in. -/
namespace Go.Proofs.Ytdkbhoichmcodaa
open Go.RowKit Go.Deep Go.ChangeShapes Go.WideShapes Go.Joins
set_option linter.unusedVariables false
/-- the slice value v has the texts ns; g: the block that they lie in. -/
def StrsF (w : World) (v : Value) (ns : List ByteArray) (g : List Nat) : Prop :=
  ∃ (a : Option Addr) (c : Nat), v = .slice a ns.length c ∧ ns.length ≤ c ∧ c ≤ maxLen ∧ (ns = [] → g = []) ∧ (ns ≠ [] → ∃ b o, a = some ⟨b, o, none⟩ ∧ b < w.heap.size ∧ g = [b] ∧ ∀ i n, ns[i]? = some n → w.cell? ⟨b, o + i, none⟩ = some (.string n))
theorem StrsF.lt {w : World} {v : Value} {ns : List ByteArray} {g : List Nat} (h : StrsF w v ns g) : ∀ b ∈ g, b < w.heap.size := by
  obtain ⟨a, c, _, _, _, h0, h⟩ := h
  by_cases hne : ns = []
  · rw [h0 hne]; intro b hb; cases hb
  · obtain ⟨b, o, _, hlt, rfl, _⟩ := h hne
    intro x hx
    rcases List.mem_singleton.1 hx with rfl
    exact hlt
theorem StrsF.keep {w w' : World} {v : Value} {ns : List ByteArray} {g : List Nat} (h : StrsF w v ns g) (hs : w.heap.size ≤ w'.heap.size) (hg : ∀ b ∈ g, w'.heap[b]? = w.heap[b]?) : StrsF w' v ns g := by
  obtain ⟨a, c, e, hl, hc, h0, h⟩ := h
  refine ⟨a, c, e, hl, hc, h0, fun hne => ?_⟩
  obtain ⟨b, o, ea, hlt, rfl, hC⟩ := h hne
  exact ⟨b, o, ea, by omega, rfl, fun i n hn => (cell_blk (hg b (by simp))).trans (hC i n hn)⟩
theorem StrsF.below {w w' : World} {v : Value} {ns : List ByteArray} {g : List Nat} (h : StrsF w v ns g) (hb : Below w.heap.size w w') : StrsF w' v ns g := h.keep hb.size fun b hg => hb.block b (h.lt b hg)
theorem StrsF.pick {w : World} {v : Value} {ns : List ByteArray} {g : List Nat} (h : StrsF w v ns g) :
    ∃ a c b o, v = .slice a ns.length c ∧ ns.length ≤ c ∧ c ≤ maxLen ∧ (ns = [] → g = []) ∧ ∀ k, k < ns.length → a = some ⟨b, o, none⟩ ∧ b < w.heap.size ∧ g = [b] ∧ ∀ i n, ns[i]? = some n → w.cell? ⟨b, o + i, none⟩ = some (.string n) := by
  obtain ⟨a, c, rfl, hl, hc, h0, h⟩ := h
  by_cases hne : ns = []
  · exact ⟨a, c, 0, 0, rfl, hl, hc, h0, fun k hk => by rw [hne] at hk; simp at hk⟩
  · obtain ⟨b, o, h⟩ := h hne
    exact ⟨a, c, b, o, rfl, hl, hc, h0, fun _ _ => h⟩
theorem StrsF.shape {w : World} {v : Value} {ns : List ByteArray} {g : List Nat} (h : StrsF w v ns g) : ∃ a c, v = .slice a ns.length c ∧ ns.length ≤ c ∧ c ≤ maxLen := by
  obtain ⟨a, c, e, hl, hc, _⟩ := h
  exact ⟨a, c, e, hl, hc⟩
/-- texts of a size that there is. -/
def SsWf (ns : List ByteArray) : Prop := ∀ y ∈ ns, y.size ≤ maxLen
/-- what texts weigh together. -/
def wtSs : List ByteArray → Nat
  | [] => 0
  | s :: ss => s.size + wtSs ss
theorem wtSs_app (a b : List ByteArray) : wtSs (a ++ b) = wtSs a + wtSs b := by
  induction a with
  | nil => simp [wtSs]
  | cons x xs ih => rw [List.cons_append, wtSs, wtSs, ih]; omega
theorem wtSs_take {es : List ByteArray} {k : Nat} {e : ByteArray} (h : es[k]? = some e) : wtSs (es.take (k + 1)) = wtSs (es.take k) + e.size := by
  obtain ⟨hk, rfl⟩ := List.getElem?_eq_some_iff.1 h
  rw [List.take_succ_eq_append_getElem hk, wtSs_app]
  simp [wtSs]
section
variable {H : Type} {enc : TypeId × Value → H} {P : Program} {w : World} {spare : Nat → Bool} {held : Bool}
/-- a slice of texts that came in. -/
theorem open_strs {t e : TypeId} (ht : P.underlying t = some (.slice e)) (he : P.underlying e = some .string) (cg : P.cellsOf e = 1) {fuel : Nat} {v : Value} {x : DataW H × List MemPlace} (h : DataW.trod enc P w 0 spare held fuel t [v] = some x) : ∃ ns g, StrsF w v ns g ∧ SsWf ns := by
  rcases DataW.trod_slice ht h with ⟨h0, _⟩ | ⟨a, len, cap, elems, rest, n, hfn, hcs, rfl, hb, hl, hm, hlen, hel, hsp, hns⟩
  · simp at h0; subst h0
    exact ⟨[], [], ⟨none, 0, rfl, by simp, by simp, fun _ => rfl, fun h => absurd rfl h⟩, fun y hy => by cases hy⟩
  simp at hcs; subst hcs
  have each : ∀ i, i < len → ∃ q : ByteArray, q.size ≤ maxLen ∧ w.cell? (a.add i) = some (.string q) := by
    intro i hi
    have hi1 := hel i hi
    have hie : elems[i]? = some elems[i] := by simp [hlen, hi]
    rw [hie, Option.bind_eq_some_iff] at hi1
    obtain ⟨cs', h1, h2⟩ := hi1
    rw [cg] at h1
    obtain ⟨_, hl1, hcell⟩ := World.cells?_some h1
    match cs', hl1 with
    | [z0], _ =>
      have e0 := hcell 0 (by omega)
      rw [add_add] at e0
      obtain ⟨n3, q3, _, w3⟩ := DataW.trod_string he h2
      simp at q3
      subst q3
      exact ⟨n3, w3, by simpa using e0⟩
  have : Inhabited ByteArray := ⟨⟨#[]⟩⟩
  obtain ⟨q, hq⟩ := choose_lt each
  refine ⟨(List.range len).map q, if len = 0 then [] else [a.block], ⟨some a, cap, by simp, by simpa using hl, hm, fun hne => ?_, fun hne => ?_⟩, fun y hy => ?_⟩
  · have : len = 0 := by simpa using congrArg List.length hne
    simp [this]
  · have hpos : 0 < len := by
      rcases Nat.eq_zero_or_pos len with h0 | h0
      · subst h0; simp at hne
      · exact h0
    have hs : a.spot = none := by have := World.cell?_spot (hq 0 hpos).2; simpa [Addr.add] using this
    obtain ⟨b, o, sp⟩ := a
    simp at hs; subst hs
    refine ⟨b, o, rfl, ?_, by simp; omega, fun i x hx => ?_⟩
    · have := World.block_lt_of_cell? _ _ (hq 0 hpos).2
      simpa [Addr.add] using this
    · have hi : i < len := by
        obtain ⟨h1, _⟩ := List.getElem?_eq_some_iff.1 hx
        simpa using h1
      have ex : x = q i := by simp [hi] at hx; exact hx.symm
      subst ex
      have := (hq i hi).2
      rw [add_plain] at this
      exact this
  · obtain ⟨i, hi, rfl⟩ := List.mem_map.1 hy
    exact (hq i (List.mem_range.1 hi)).1
end
end Go.Proofs.Ytdkbhoichmcodaa
