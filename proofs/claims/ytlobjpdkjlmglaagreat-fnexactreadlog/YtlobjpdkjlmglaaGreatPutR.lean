/- Own text. The bytes of a row (rowU), and the contract of impl.rowBytes. -/
import Derived.Test.YtlobjpdkjlmglaaGreatRowOk
import Derived.Test.YtlobjpdkjlmglaaGreatPutI
import Derived.Test.YtlobjpdkjlmglaaGreatShelf
import Derived.Test.YtlobjpdkjlmglaaGreatBld
import Derived.Handy
namespace Go.Proofs.YtlobjpdkjlmglaaGreat
open Go.RowKit
set_option linter.unusedVariables false
/-- the bytes of a row. -/
def rowU (vs : List V3) : List UInt8 := vs.flatMap fun x => (putS x.k x.n x.s).data.toList
theorem rowU_take {vs : List V3} {k : Nat} {x : V3} (h : vs[k]? = some x) : rowU (vs.take (k + 1)) = rowU (vs.take k) ++ (putS x.k x.n x.s).data.toList := by
  obtain ⟨hk, rfl⟩ := List.getElem?_eq_some_iff.1 h
  unfold rowU
  rw [List.take_succ_eq_append_getElem hk, List.flatMap_append]
  simp
theorem putS_size (k n : Int) (s : ByteArray) : (putS k n s).size ≤ 102 := by
  unfold putS
  split
  · rename_i h
    split
    · rw [nums_size]; simp
    · split
      · rw [nums_size, numL_len]; omega
      · split
        · rw [nums_size]; simp
        · have h3 : k = 3 := by
            by_cases h3 : k = 3
            · exact h3
            · rw [okB_x k n s (by assumption) (by assumption) (by assumption) h3] at h; cases h
          subst h3
          have := okB_3s n s h
          rw [ByteArray.size_append, nums_size]; simp; omega
  · exact Nat.zero_le _
theorem rowU_len (vs : List V3) : (rowU vs).length ≤ 102 * vs.length := by
  induction vs with
  | nil => simp [rowU]
  | cons x xs ih =>
    have h := putS_size x.k x.n x.s
    have e : rowU (x :: xs) = (putS x.k x.n x.s).data.toList ++ rowU xs := by unfold rowU; rw [List.flatMap_cons]
    rw [e, List.length_append, List.length_cons]
    have : (putS x.k x.n x.s).data.toList.length = (putS x.k x.n x.s).size := Array.length_toList
    omega
/-- a builder of the call's own stands where nothing older is written. -/
theorem builder_below {T e : TypeId} {B b : Nat} {p : Value} {bs : List Value} {w w' : World} (h : Lib.BuilderAt T e B b p bs w) (hb : Below w.heap.size w w') : Lib.BuilderAt T e B b p bs w' := by
  obtain ⟨h0, v, h1, h2, h3⟩ := h
  have hlt : b < w.heap.size := by
    rcases Nat.lt_or_ge b w.heap.size with h' | h'
    · exact h'
    · simp [Array.getElem?_eq_none h'] at h1
  refine ⟨h0, v, (hb.block b hlt).trans h1, ⟨h2.1, ?_⟩, h3⟩
  rcases h2.2 with hn | ⟨g, cap, cur, hv, hg, hc, rest⟩
  · exact .inl hn
  · have hgl : g < w.heap.size := by
      rcases Nat.lt_or_ge g w.heap.size with h' | h'
      · exact h'
      · simp [Array.getElem?_eq_none h'] at hc
    exact .inr ⟨g, cap, cur, hv, hg, (hb.block g hgl).trans hc, rest⟩
theorem isBuilder_below {T e : TypeId} {B b : Nat} {bs : List Value} {w w' : World} (h : Lib.IsBuilder T e B b bs w) (hb : Below w.heap.size w w') : Lib.IsBuilder T e B b bs w' :=
  h.elim (fun h => .inl (builder_below h hb)) (fun h => .inr (builder_below h hb))
set_option maxHeartbeats 2000000 in
set_option maxRecDepth 100000 in
theorem rowBytes_any (v : Value) (vs : List V3) (w : World) (hr : RowIs w v vs) (hw : VsWf vs) (hn : vs.length ≤ 1048576) :
    Calls Tryz.prog 74 #[v] w fun e w' => e = .returned (.string ⟨(rowU vs).toArray⟩) ∧ Below w.heap.size w w' := by
  obtain ⟨a, c, b, o, rfl, hl, hc, ha⟩ := hr.pick
  unfold maxLen at hc
  clear hr
  go_enter Tryz.func74, Tryz.ntmps74
  go_wp2
  go_loopw [8] (fun i wr => ∃ k : Nat, k ≤ vs.length ∧ i = .int .i64 k ∧ Below w.heap.size w wr ∧ Lib.IsBuilder 149 5 w.heap.size w.heap.size (Lib.byteCells (rowU (vs.take k))) wr) (fun i _ => vs.length - (intOf i).toNat)
  case atStart =>
    refine ⟨0, Nat.zero_le _, rfl, by go_grown, .inl ⟨Nat.le_refl _, .slice none 0 0, ?_, ?_, by simp [Value.ownBlock]⟩⟩
    · exact heap_alloc_new w _
    · simpa [rowU, Lib.byteCells] using World.ownsRow_nil _ _ _ _
  case round =>
    obtain ⟨k, hk, rfl, hb, hB⟩ := hrel
    have hzb := hb.size
    have hsz : w.heap.size < wr.heap.size := by rcases hB with h | h <;> exact h.lt
    by_cases hlt : k < vs.length
    · obtain ⟨rfl, hblt, hL⟩ := ha k hlt
      obtain ⟨x, hx, c0, c1, c2, hbr⟩ := hL.at hblt hb hlt
      have hxs : x.s.size ≤ maxLen := (hw x (List.mem_of_getElem? hx)).2.2
      have HX : Hid (vs[k]? = some x) := hx
      have hl1 : (Lib.byteCells (rowU (vs.take k))).length + (putS x.k x.n x.s).size ≤ 140737488355328 := by
        have h1 := rowU_len (vs.take k)
        have h2 := putS_size x.k x.n x.s
        rw [Lib.byteCells_length]
        have : (vs.take k).length ≤ 1048576 := by simp; omega
        omega
      clear ha hL hx hw
      go_wp2_with (first | (go_at_call 108; refine Calls.mono (implPut_any _ _ _ _ hxs) ?_; rintro e w1 ⟨rfl, hb1⟩; have hz1 := hb1.size; (try simp at hz1)) | fail)
      have hB1 := isBuilder_below hB (w' := w1) (by repeat (first | exact Below.refl _ _ | refine Below.drew ?_ | refine Below.alloc ?_ (by first | (simp; done) | (simp; omega) | omega) _ | refine Below.setCell ?_ (by first | (simp; done) | (simp; omega) | omega) _ | refine bstep (by assumption) (by first | (simp; done) | (simp; omega) | omega) ?_))
      refine Calls.mono (wstr_any w.heap.size w.heap.size _ (putS x.k x.n x.s) w1 hB1 hl1 (by omega)) ?_
      rintro e w2 ⟨rfl, hB2, hb2⟩
      have hz2 := hb2.size
      go_wp2
      go_roundw
      case rel =>
        refine ⟨k + 1, hlt, by simp, (show Below w.heap.size w w1 from by repeat (first | exact Below.refl _ _ | refine Below.drew ?_ | refine Below.alloc ?_ (by first | (simp; done) | (simp; omega) | omega) _ | refine Below.setCell ?_ (by first | (simp; done) | (simp; omega) | omega) _ | refine bstep (by assumption) (by first | (simp; done) | (simp; omega) | omega) ?_)).trans hb2, .inr ?_⟩
        rw [rowU_take HX.out, Lib.byteCells_append, ← Lib.strCells_eq]
        exact hB2
      case measure => simp [intOf]; omega
    · clear ha hw
      obtain rfl : k = vs.length := by omega
      rw [List.take_length] at hB
      go_wp2_with fail
      refine Calls.mono (Tryz.Builder_String_any w.heap.size w.heap.size (rowU vs) wr hB hzb) ?_
      rintro e w1 ⟨rfl, hb1⟩
      go_wp2
      go_returns
      exact ⟨rfl, hb.trans hb1⟩
end Go.Proofs.YtlobjpdkjlmglaaGreat
