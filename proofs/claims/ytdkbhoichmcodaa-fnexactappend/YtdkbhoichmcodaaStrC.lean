/- Own text. Lists of texts: how much one weighs (szStringS), a new one with the same texts (toStringS). -/
import Derived.Test.YtdkbhoichmcodaaStrE
import Derived.Handy
import Derived.Deep.RegionHeld3
import Derived.Deep.OwnRows
namespace Go.Proofs.Ytdkbhoichmcodaa
open Go.RowKit Go.Deep
set_option linter.unusedVariables false
set_option maxHeartbeats 2000000 in
set_option maxRecDepth 100000 in
theorem szStringS_any (v : Value) (ns : List ByteArray) (g : List Nat) (left : Int) (w : World) (hr : StrsF w v ns g) (hw : SsWf ns) (h0 : 0 ≤ left) (h1 : left ≤ 1048576) :
    Calls Try.prog 65 #[v, .int .i64 left] w fun e w' => (∃ z : Int, e = .returned (.int .i64 z) ∧ -1 ≤ z ∧ z ≤ left ∧ (0 ≤ z → z + (ns.length + wtSs ns) = left)) ∧ Below w.heap.size w w' := by
  obtain ⟨a, c, b, o, rfl, hl, hc, _, ha⟩ := hr.pick
  unfold maxLen at hc
  clear hr
  by_cases hbig : left - ns.length < 0
  · go_enter Try.func65, Try.ntmps65
    go_wp2
    go_returns
    exact ⟨⟨-1, rfl, by omega, by omega, by omega⟩, by go_grown⟩
  go_enter Try.func65, Try.ntmps65
  go_wp2
  go_loopw [1, 5] (fun l i wr => ∃ k : Nat, k ≤ ns.length ∧ i = .int .i64 k ∧ l = .int .i64 (left - ns.length - wtSs (ns.take k)) ∧ 0 ≤ left - ns.length - wtSs (ns.take k) ∧ Below w.heap.size w wr) (fun _ i _ => ns.length - (intOf i).toNat)
  case atStart => exact ⟨0, Nat.zero_le _, rfl, by simp [wtSs], by simp [wtSs]; omega, by go_grown⟩
  case round =>
    obtain ⟨k, hk, rfl, rfl, hp, hb⟩ := hrel
    by_cases hlt : k < ns.length
    · have hzb := hb.size
      obtain ⟨rfl, hblt, _, hC⟩ := ha k hlt
      have hx : ns[k]? = some ns[k] := by simp
      have c0 := (hb.cell (p := ⟨b, _, none⟩) hblt).trans (hC k ns[k] hx)
      have hxs : ns[k].size ≤ maxLen := hw ns[k] (List.getElem_mem hlt)
      have hT : Hid (wtSs (ns.take (k + 1)) = wtSs (ns.take k) + ns[k].size) := wtSs_take hx
      unfold maxLen at hxs
      generalize ns[k] = z at c0 hxs hT
      clear ha hC hx
      have hbr : b < wr.heap.size := by omega
      have hp1 : left - ns.length - wtSs (ns.take k) ≤ 1048576 := by omega
      obtain ⟨W, HW⟩ : ∃ W : Int, Hid (left - ns.length - wtSs (ns.take k) = W) := ⟨_, rfl⟩
      rw [HW.out] at hp hp1 ⊢
      by_cases hn : W - z.size < 0
      · go_wp2_with fail
        go_returns
        exact ⟨⟨-1, rfl, by omega, by omega, by omega⟩, hb⟩
      · go_wp2_with fail
        have hT := hT.out
        have hW := HW.out
        exact ⟨⟨k + 1, hlt, by simp, by congr 1; omega, by omega, hb⟩, by simp [intOf]; omega⟩
    · go_wp2
      go_returns
      have hkk : k = ns.length := by omega
      subst hkk
      refine ⟨⟨_, rfl, by omega, by omega, fun _ => ?_⟩, hb⟩
      rw [List.take_length]; omega
theorem Try.infoStr : (Try.prog.info? 9).map (fun i => (i.zero, i.size, i.bytes)) = some (some (.string ⟨#[]⟩), 1, 16) := by kernel_rfl
/-- texts of the call's own: block B has them, the first k are laid. -/
def HalfS (w : World) (B : Nat) (ns : List ByteArray) (k : Nat) : Prop := ∃ f, w.rowIs B 9 ns.length f ∧ ∀ i n, i < k → ns[i]? = some n → f i = .string n
theorem HalfS.cells {w : World} {B : Nat} {ns : List ByteArray} {k : Nat} (h : HalfS w B ns k) (hk : k < ns.length) : (∃ u, w.cell? ⟨B, k, none⟩ = some u) ∧ (∀ i, w.frozen? ⟨B, i, none⟩ = false) ∧ B < w.heap.size := by
  obtain ⟨f, h, _⟩ := h
  exact ⟨⟨_, h.cell (by omega)⟩, fun i => h.frozen i, h.lt⟩
theorem HalfS.step {w : World} {B : Nat} {ns : List ByteArray} {k : Nat} {x : ByteArray} (h : HalfS w B ns k) (hx : ns[k]? = some x) : HalfS (w.setCell ⟨B, k, none⟩ (.string x)) B ns (k + 1) := by
  obtain ⟨f, h, e⟩ := h
  refine ⟨_, h.set _ _, fun i y hi hy => ?_⟩
  by_cases ek : i = k
  · subst ek
    rw [hx] at hy
    simp [Option.some.inj hy]
  · simp only [if_neg ek]
    exact e i y (by omega) hy
theorem halfS_made (w : World) (z : Array Value) (ns : List ByteArray) : HalfS (w.alloc (.cells (madeCells z ns.length) 9)) w.heap.size ns 0 :=
  ⟨fun i => (madeCells z ns.length)[i]?.getD undef, ⟨_, blk_alloc_new _ _, size_madeCells _ _, fun i hi => by
    have : i < (madeCells z ns.length).size := by rw [size_madeCells]; exact hi
    simp [this]⟩, fun i x hi => by omega⟩
theorem HalfS.done {w : World} {B : Nat} {ns : List ByteArray} (h : HalfS w B ns ns.length) (hm : ns.length ≤ maxLen) (hne : ns ≠ []) : StrsF w (.slice (some ⟨B, 0, none⟩) ns.length ns.length) ns [B] ∧ OwnN w B [B] := by
  obtain ⟨f, hf, he⟩ := h
  refine ⟨⟨_, _, rfl, Nat.le_refl _, hm, fun h => absurd h hne, fun _ => ⟨B, 0, rfl, hf.lt, rfl, fun i n hn => ?_⟩⟩, by simp, fun b hb => ?_⟩
  · have hi : i < ns.length := (List.getElem?_eq_some_iff.1 hn).1
    rw [Nat.zero_add, hf.cell (by omega), he i n hi hn]
  · rcases List.mem_singleton.1 hb with rfl
    exact ⟨Nat.le_refl _, fun o => hf.frozen o⟩
set_option maxHeartbeats 2000000 in
set_option maxRecDepth 100000 in
theorem toStringS_any (v : Value) (ns : List ByteArray) (g : List Nat) (w : World) (hr : StrsF w v ns g) (hn : ns.length ≤ 1048576) :
    Calls Try.prog 69 #[v] w fun e w' => (∃ u g', e = .returned u ∧ StrsF w' u ns g' ∧ OwnN w' w.heap.size g') ∧ Below w.heap.size w w' := by
  obtain ⟨a, c, b, o, rfl, hl, hc, _, ha⟩ := hr.pick
  unfold maxLen at hc
  clear hr
  have hmk := run_make_wide (P := Try.prog) 41 9 _ 1 16 Try.underlying41 Try.infoStr ns.length (by omega) (by omega)
  go_enter Try.func69, Try.ntmps69
  go_wp2
  go_loopw [4] (fun i wr => ∃ k : Nat, k ≤ ns.length ∧ i = .int .i64 k ∧ Below w.heap.size w wr ∧ HalfS wr w.heap.size ns k) (fun i _ => ns.length - (intOf i).toNat)
  case atStart => exact ⟨0, Nat.zero_le _, rfl, by go_grown, halfS_made _ _ _⟩
  case round =>
    obtain ⟨k, hk, rfl, hb, hH⟩ := hrel
    clear hmk
    by_cases hlt : k < ns.length
    · have hzb := hb.size
      obtain ⟨rfl, hblt, _, hC⟩ := ha k hlt
      have hx : ns[k]? = some ns[k] := by simp
      have c0 := (hb.cell (p := ⟨b, _, none⟩) hblt).trans (hC k ns[k] hx)
      have HX : Hid (ns[k]? = some ns[k]) := hx
      generalize ns[k] = z at c0 HX
      obtain ⟨⟨y0, q0⟩, gf, gs⟩ := hH.cells hlt
      have hbr : b < wr.heap.size := by omega
      clear ha hC hx
      go_wp2
      exact ⟨⟨k + 1, hlt, by simp, by repeat (first | (with_reducible exact Below.refl _ _) | (with_reducible refine Below.drew ?_) | (with_reducible refine Below.alloc ?_ ?hh _; case hh => first | (simp; done) | (simp; omega) | omega) | (with_reducible refine Below.setCell ?_ ?hh _; case hh => first | (simp; done) | (simp; omega) | omega) | refine bstep (by assumption) (by first | (simp; done) | (simp; omega) | omega) ?_), hH.step HX.out⟩, by simp [intOf]; omega⟩
    · go_wp2
      go_returns
      obtain rfl : k = ns.length := by omega
      by_cases hne : ns = []
      · subst hne
        exact ⟨⟨_, [], rfl, ⟨_, _, rfl, Nat.le_refl _, by simp, fun _ => rfl, fun h => absurd rfl h⟩, by simp [OwnN]⟩, hb⟩
      · obtain ⟨h1, h2⟩ := hH.done (by unfold maxLen; omega) hne
        exact ⟨⟨_, _, rfl, h1, h2⟩, hb⟩
end Go.Proofs.Ytdkbhoichmcodaa
