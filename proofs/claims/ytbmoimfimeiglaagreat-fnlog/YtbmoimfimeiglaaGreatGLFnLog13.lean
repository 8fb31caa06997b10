/- Own texts, joined: contracts that the law's proof goes by. -/
import Derived.Test.YtbmoimfimeiglaaGreatGLFnLog1
import Derived.Handy
import Derived.OwnWalk
import Derived.Lib.SmallJoins
import Derived.Shelf.Strings.Builder1
import Derived.Test.YtbmoimfimeiglaaGreatGLFnLog10
import Derived.Test.YtbmoimfimeiglaaGreatGLFnLog7
import Derived.Test.YtbmoimfimeiglaaGreatGLFnLog11
import Derived.Test.YtbmoimfimeiglaaGreatGLFnLog3
import Derived.Test.YtbmoimfimeiglaaGreatGLFnLog15
namespace Go.Proofs.YtbmoimfimeiglaaGreat
open Go.RowKit
set_option linter.unusedVariables false
theorem bldSize : (Tryz.prog.info? 145).map (·.size) = some 2 := by kernel_rfl
theorem bldLies : liesAt Tryz.prog Tryz.prog.depth 145 (2 / Tryz.prog.cellsOf 145) 0 145 1 = true := by kernel_rfl
theorem bldByte : (Tryz.prog.info? 5).map (fun i => (i.zero, i.size, i.bytes)) = some (some (.int .u8 0), 1, 1) := by kernel_rfl
set_option maxHeartbeats 1000000 in
set_option maxRecDepth 100000 in
theorem copyCheck_used (b : Nat) (w : World) (h0 : w.cell? ⟨b, 0, none⟩ = some (.pointer (some ⟨b, 0, none⟩))) :
    Calls Tryz.prog 113 #[.pointer (some ⟨b, 0, none⟩)] w fun e w' => e = .returned (.tuple #[]) ∧ w' = w := by
  obtain ⟨j, hj, _⟩ := Option.map_eq_some_iff.1 bldSize
  go_enter Tryz.func113, Tryz.ntmps113
  go_wp2
  rw [Lib.run_neq_ptr_same w _ Tryz.underlying143 hj]
  go_wp2
  go_end0
  exact ⟨rfl, rfl⟩
set_option maxHeartbeats 1000000 in
set_option maxRecDepth 100000 in
theorem copyCheck_fresh (b : Nat) (w : World) (h0 : w.cell? ⟨b, 0, none⟩ = some (.pointer none)) (hsh : w.shape? b = some (145, 2)) (hfz : w.frozen? ⟨b, 0, none⟩ = false) :
    Calls Tryz.prog 113 #[.pointer (some ⟨b, 0, none⟩)] w fun e w' => e = .returned (.tuple #[]) ∧ w' = w.setCell ⟨b, 0, none⟩ (.pointer (some ⟨b, 0, none⟩)) := by
  obtain ⟨j, hj, hjs⟩ := Option.map_eq_some_iff.1 bldSize
  go_enter Tryz.func113, Tryz.ntmps113
  go_wp2
  rw [Lib.run_to_unsafe w ⟨b, 0, none⟩ Tryz.underlying143 Tryz.underlying183 hj (by rw [hjs]; decide) hsh (Nat.zero_lt_succ 1)]
  simp only [Result.andThen]
  rw [Oper.upon_value]
  go_wp2
  rw [run_callFunc_extern Tryz.func124 (by kernel_rfl) (by kernel_rfl) (by kernel_rfl) (e := Extern.AbiNoEscape.same) (by kernel_rfl)]
  rw [Lib.run_noEscape]
  simp only [Result.andThen]
  rw [Oper.upon_value]
  go_wp2
  rw [Lib.run_from_unsafe w ⟨b, 0, none⟩ Tryz.underlying183 Tryz.underlying143 hj hsh bldLies]
  simp only [Result.andThen]
  rw [Oper.upon_value]
  go_wp2
  go_end0
  exact ⟨rfl, rfl⟩
theorem copyCheck_any (B b : Nat) (bs : List Value) (w : World) (h : Lib.IsBuilder 145 5 B b bs w) :
    Calls Tryz.prog 113 #[.pointer (some ⟨b, 0, none⟩)] w fun e w' => e = .returned (.tuple #[]) ∧ (Lib.BuilderAt 145 5 B b (.pointer (some ⟨b, 0, none⟩)) bs w' ∧ Below B w w') := by
  rcases h with h | h
  · refine (copyCheck_fresh b w h.cell0 h.shape h.frozen0).mono ?_
    rintro e w' ⟨rfl, rfl⟩
    exact ⟨rfl, h.used _, (Below.refl B w).setCell (p := ⟨b, 0, none⟩) h.1 _⟩
  · refine (copyCheck_used b w h.cell0).mono ?_
    rintro e w' ⟨rfl, rfl⟩
    exact ⟨rfl, h, Below.refl B _⟩
set_option maxHeartbeats 2000000 in
set_option maxRecDepth 100000 in
theorem wstr_any (B b : Nat) (bs : List Value) (s : ByteArray) (w : World) (h : Lib.IsBuilder 145 5 B b bs w) (hlen : bs.length + s.size ≤ 140737488355328) (hBw : B ≤ w.heap.size) :
    Calls Tryz.prog 93 #[.pointer (some ⟨b, 0, none⟩), .string s] w fun e w' => e = .returned (.tuple #[.int .i64 s.size, .nilIface]) ∧ (Lib.BuilderAt 145 5 B b (.pointer (some ⟨b, 0, none⟩)) (bs ++ Lib.strCells s) w' ∧ Below B w w') := by
  obtain ⟨i0, hi, hz0, hz1, hz2⟩ := info_parts bldByte
  go_enter Tryz.func93, Tryz.ntmps93
  go_wp2_with fail
  refine (copyCheck_any B b bs _ h).mono ?_
  rintro e w1 ⟨rfl, h1, hb1⟩
  obtain ⟨hB, v, hbk, hown, hne⟩ := h1
  have c0 : w1.cell? ⟨b, 0, none⟩ = some (.pointer (some ⟨b, 0, none⟩)) := by rw [Lib.cell_of_heap hbk]; rfl
  have c1 : w1.cell? ⟨b, 1, none⟩ = some v := by rw [Lib.cell_of_heap hbk]; rfl
  go_wp2_with (at_builtin; refine Lib.wpList_append_own_string _ rfl _ _ 22 9 rfl B 5 i0 Tryz.underlying22 Tryz.underlying9 hi hz0 hz1 hz2 _ _ _ rfl hown s rfl ?c3 ?c4 ?c5 ?_)
  case c3 => unfold maxLen; omega
  case c4 => omega
  case c5 => have := hb1.size; omega
  intro v' w2 hown' hgrow _
  have hlt : b < w1.heap.size := by
    rcases Nat.lt_or_ge b w1.heap.size with h' | h'
    · exact h'
    · simp [Array.getElem?_eq_none h'] at hbk
  have hb2 : w2.heap[b]? = some (.cells #[.pointer (some ⟨b, 0, none⟩), v] 145 (0, 0)) := (hgrow.block b hlt (fun e => hne e.symm)).trans hbk
  have d0 : w2.cell? ⟨b, 0, none⟩ = some (.pointer (some ⟨b, 0, none⟩)) := by rw [Lib.cell_of_heap hb2]; rfl
  have d1 : w2.cell? ⟨b, 1, none⟩ = some v := by rw [Lib.cell_of_heap hb2]; rfl
  have f1 : w2.frozen? ⟨b, 1, none⟩ = false := Lib.frozen_of_heap hb2 1
  have hs : ∃ ao n' cap, v' = .slice ao n' cap := by
    rcases hown'.2 with ⟨hv, _⟩ | ⟨g, cap, cur, hv, _⟩ <;> exact ⟨_, _, _, hv⟩
  obtain ⟨ao, n', cap, rfl⟩ := hs
  go_wp2
  go_ret2
  exact ⟨rfl, Lib.BuilderAt.put (T := 145) (e := 5) hB hb2 (bs' := bs ++ Lib.strCells s) (by simpa [Lib.strCells_length] using hown') (by decide),
    (hb1.grown hgrow (by have := hb1.size; omega) (fun k hk => (hown.lt k hk).1)).setCell (p := ⟨b, 1, none⟩) hB _⟩
end Go.Proofs.YtbmoimfimeiglaaGreat
namespace Go.Proofs.YtbmoimfimeiglaaGreat
open Go.RowKit
set_option linter.unusedVariables false
def rowU (vs : List V3) : List UInt8 := vs.flatMap fun x => (putS x.k x.n x.s).data.toList
theorem rowU_take {vs : List V3} {k : Nat} {x : V3} (h : vs[k]? = some x) : rowU (vs.take (k + 1)) = rowU (vs.take k) ++ (putS x.k x.n x.s).data.toList := by
  obtain ⟨hk, rfl⟩ := List.getElem?_eq_some_iff.1 h
  unfold rowU
  rw [List.take_succ_eq_append_getElem hk, List.flatMap_append]
  simp
theorem putS_size (k n : Int) (s : ByteArray) : (putS k n s).size ≤ 102 := by
  unfold putS
  split
  · rename_i h
    split
    · rw [nums_size]; simp
    · split
      · rw [nums_size, numL_len]; omega
      · split
        · rw [nums_size]; simp
        · have h3 : k = 3 := by
            by_cases h3 : k = 3
            · exact h3
            · rw [okB_x k n s (by assumption) (by assumption) (by assumption) h3] at h; cases h
          subst h3
          have := okB_3s n s h
          rw [ByteArray.size_append, nums_size]; simp; omega
  · exact Nat.zero_le _
theorem rowU_len (vs : List V3) : (rowU vs).length ≤ 102 * vs.length := by
  induction vs with
  | nil => simp [rowU]
  | cons x xs ih =>
    have h := putS_size x.k x.n x.s
    have e : rowU (x :: xs) = (putS x.k x.n x.s).data.toList ++ rowU xs := by unfold rowU; rw [List.flatMap_cons]
    rw [e, List.length_append, List.length_cons]
    have : (putS x.k x.n x.s).data.toList.length = (putS x.k x.n x.s).size := Array.length_toList
    omega
theorem builder_below {T e : TypeId} {B b : Nat} {p : Value} {bs : List Value} {w w' : World} (h : Lib.BuilderAt T e B b p bs w) (hb : Below w.heap.size w w') : Lib.BuilderAt T e B b p bs w' := by
  obtain ⟨h0, v, h1, h2, h3⟩ := h
  have hlt : b < w.heap.size := by
    rcases Nat.lt_or_ge b w.heap.size with h' | h'
    · exact h'
    · simp [Array.getElem?_eq_none h'] at h1
  refine ⟨h0, v, (hb.block b hlt).trans h1, ⟨h2.1, ?_⟩, h3⟩
  rcases h2.2 with hn | ⟨g, cap, cur, hv, hg, hc, rest⟩
  · exact .inl hn
  · have hgl : g < w.heap.size := by
      rcases Nat.lt_or_ge g w.heap.size with h' | h'
      · exact h'
      · simp [Array.getElem?_eq_none h'] at hc
    exact .inr ⟨g, cap, cur, hv, hg, (hb.block g hgl).trans hc, rest⟩
theorem isBuilder_below {T e : TypeId} {B b : Nat} {bs : List Value} {w w' : World} (h : Lib.IsBuilder T e B b bs w) (hb : Below w.heap.size w w') : Lib.IsBuilder T e B b bs w' :=
  h.elim (fun h => .inl (builder_below h hb)) (fun h => .inr (builder_below h hb))
set_option maxHeartbeats 2000000 in
set_option maxRecDepth 100000 in
theorem rowBytes_any (v : Value) (vs : List V3) (w : World) (hr : RowIs w v vs) (hw : VsWf vs) (hn : vs.length ≤ 1048576) :
    Calls Tryz.prog 64 #[v] w fun e w' => e = .returned (.string ⟨(rowU vs).toArray⟩) ∧ Below w.heap.size w w' := by
  obtain ⟨a, c, b, o, rfl, hl, hc, ha⟩ := hr.pick
  unfold maxLen at hc
  clear hr
  go_enter Tryz.func64, Tryz.ntmps64
  go_wp2
  go_loopw [8] (fun i wr => ∃ k : Nat, k ≤ vs.length ∧ i = .int .i64 k ∧ Below w.heap.size w wr ∧ Lib.IsBuilder 145 5 w.heap.size w.heap.size (Lib.byteCells (rowU (vs.take k))) wr) (fun i _ => vs.length - (intOf i).toNat)
  case atStart =>
    refine ⟨0, Nat.zero_le _, rfl, by go_grown, .inl ⟨Nat.le_refl _, .slice none 0 0, ?_, ?_, by simp [Value.ownBlock]⟩⟩
    · exact heap_alloc_new w _
    · simpa [rowU, Lib.byteCells] using World.ownsRow_nil _ _ _ _
  case round =>
    obtain ⟨k, hk, rfl, hb, hB⟩ := hrel
    have hzb := hb.size
    have hsz : w.heap.size < wr.heap.size := by rcases hB with h | h <;> exact h.lt
    by_cases hlt : k < vs.length
    · obtain ⟨rfl, hblt, hL⟩ := ha k hlt
      obtain ⟨x, hx, c0, c1, c2, hbr⟩ := hL.at hblt hb hlt
      have hxs : x.s.size ≤ maxLen := (hw x (List.mem_of_getElem? hx)).2.2
      have HX : Hid (vs[k]? = some x) := hx
      have hl1 : (Lib.byteCells (rowU (vs.take k))).length + (putS x.k x.n x.s).size ≤ 140737488355328 := by
        have h1 := rowU_len (vs.take k)
        have h2 := putS_size x.k x.n x.s
        rw [Lib.byteCells_length]
        have : (vs.take k).length ≤ 1048576 := by simp; omega
        omega
      clear ha hL hx hw
      go_wp2_with (first | (go_at_call 94; refine Calls.mono (implPut_any _ _ _ _ hxs) ?_; rintro e w1 ⟨rfl, hb1⟩; have hz1 := hb1.size; (try simp at hz1)) | fail)
      have hB1 := isBuilder_below hB (w' := w1) (bela)
      refine Calls.mono (wstr_any w.heap.size w.heap.size _ (putS x.k x.n x.s) w1 hB1 hl1 (by omega)) ?_
      rintro e w2 ⟨rfl, hB2, hb2⟩
      have hz2 := hb2.size
      go_wp2
      go_roundw
      case rel =>
        refine ⟨k + 1, hlt, by simp, (show Below w.heap.size w w1 from bela).trans hb2, .inr ?_⟩
        rw [rowU_take HX.out, Lib.byteCells_append, ← Lib.strCells_eq]
        exact hB2
      case measure => simp [intOf]; omega
    · clear ha hw
      obtain rfl : k = vs.length := by omega
      rw [List.take_length] at hB
      go_wp2_with fail
      refine Calls.mono (Tryz.Builder_String_any w.heap.size w.heap.size (rowU vs) wr hB hzb) ?_
      rintro e w1 ⟨rfl, hb1⟩
      go_wp2
      go_returns
      exact ⟨rfl, hb.trans hb1⟩
end Go.Proofs.YtbmoimfimeiglaaGreat
namespace Go.Proofs.YtbmoimfimeiglaaGreat
open Go.RowKit
set_option linter.unusedVariables false
def nb (l : List UInt8) : List Int := l.map fun b => (b.toNat : Int)
def csN (cs : List C2) : List Int := cs.flatMap fun x => numL x.n 8 ++ nb (rowU x.r)
def bagN (W : Int) (cs : List C2) : List Int := W :: csN cs
def putB (W : Int) (cs : List C2) : ByteArray := if okBag W cs = true then strOfNums (bagN W cs) else ⟨#[]⟩
theorem csN_take {cs : List C2} {k : Nat} {x : C2} (h : cs[k]? = some x) : csN (cs.take (k + 1)) = csN (cs.take k) ++ (numL x.n 8 ++ nb (rowU x.r)) := by
  obtain ⟨hk, rfl⟩ := List.getElem?_eq_some_iff.1 h
  unfold csN
  rw [List.take_succ_eq_append_getElem hk, List.flatMap_append]
  simp
theorem nb_len (l : List UInt8) : (nb l).length = l.length := by simp [nb]
theorem nb_cells (l : List UInt8) : (nb l).map (Value.int .u8) = Lib.byteCells l := by simp [nb, Lib.byteCells, List.map_map]
theorem okCs_mem {W : Int} : ∀ {cs : List C2} {p : Option C2}, okCs W p cs = true → ∀ x ∈ cs, okRow x.r W = true
  | [], _, _, x, hx => by cases hx
  | y :: ys, p, h, x, hx => by
    simp only [okCs, Bool.and_eq_true] at h
    rcases List.mem_cons.1 hx with rfl | hx
    · exact h.1.1.1
    · exact okCs_mem h.2 x hx
theorem okBag_facts {W : Int} {cs : List C2} (h : okBag W cs = true) : 0 ≤ W ∧ W ≤ 12 ∧ cs.length ≤ 400 ∧ ∀ x ∈ cs, x.r.length ≤ 12 := by
  simp only [okBag, Bool.and_eq_true, decide_eq_true_eq] at h
  obtain ⟨⟨⟨h0, h1⟩, h2⟩, h3⟩ := h
  refine ⟨h0, h1, h2, fun x hx => ?_⟩
  have := okCs_mem h3 x hx
  simp only [okRow, Bool.and_eq_true, decide_eq_true_eq] at this
  omega
theorem csN_len {cs : List C2} (h : ∀ x ∈ cs, x.r.length ≤ 12) : (csN cs).length ≤ 1233 * cs.length := by
  induction cs with
  | nil => simp [csN]
  | cons x xs ih =>
    have e : csN (x :: xs) = (numL x.n 8 ++ nb (rowU x.r)) ++ csN xs := by unfold csN; rw [List.flatMap_cons]
    have h1 := ih fun y hy => h y (List.mem_cons_of_mem _ hy)
    have h2 := rowU_len x.r
    have h3 := h x List.mem_cons_self
    rw [e, List.length_append, List.length_append, numL_len, nb_len, List.length_cons]
    omega
theorem own_below {w w' : World} {B e n : Nat} {v : Value} {xs : List Value} (h : w.ownsRow B e 1 v n xs) (hb : Below w.heap.size w w') : w'.ownsRow B e 1 v n xs := by
  refine ⟨h.1, ?_⟩
  rcases h.2 with hn | ⟨g, cap, cur, hv, hg, hc, rest⟩
  · exact .inl hn
  · have hgl : g < w.heap.size := by
      rcases Nat.lt_or_ge g w.heap.size with h' | h'
      · exact h'
      · simp [Array.getElem?_eq_none h'] at hc
    exact .inr ⟨g, cap, cur, hv, hg, (hb.block g hgl).trans hc, rest⟩
theorem own_eq {w : World} {B e n n' : Nat} {v : Value} {xs xs' : List Value} (h : w.ownsRow B e 1 v n xs) (hn : n = n') (hx : xs = xs') : w.ownsRow B e 1 v n' xs' := by subst hn hx; exact h
theorem own_cells {w : World} {B n : Nat} {v : Value} {x : Value} {xs : List Value} (h : w.ownsRow B 5 1 v (n + 1) (x :: xs)) :
    ∃ g cap, v = .slice (some ⟨g, 0, none⟩) (n + 1) cap ∧ ∀ (q : Nat) (u : Value), (x :: xs)[q]? = some u → w.cell? ((⟨g, 0, none⟩ : Addr).add q) = some u := by
  obtain ⟨hl, h⟩ := h
  rcases h with ⟨_, h0⟩ | ⟨g, cap, cur, hv, hg, hc, hn, hm, hs, ht⟩
  · omega
  · refine ⟨g, cap, hv, fun q u hq => ?_⟩
    have hq' : (cur.toList.take ((n + 1) * 1))[q]? = some u := by rw [ht]; exact hq
    rw [List.getElem?_take] at hq'
    split at hq'
    · have : ((⟨g, 0, none⟩ : Addr).add q) = ⟨g, q, none⟩ := by unfold Addr.add; split <;> simp_all
      rw [this]
      simp only [World.cell?, hc]
      simpa using hq'
    · cases hq'
end Go.Proofs.YtbmoimfimeiglaaGreat
