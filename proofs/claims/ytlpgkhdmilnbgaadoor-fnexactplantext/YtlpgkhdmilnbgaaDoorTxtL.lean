/- Own text. A list of texts that grows by append; what Join makes of it. -/
import Derived.Test.YtlpgkhdmilnbgaaDoorBsK
import Derived.Test.YtlpgkhdmilnbgaaDoorShelf
import Derived.Lib.Join
import Derived.Maps.AppendAt
import Derived.Handy
namespace Go.Proofs.YtlpgkhdmilnbgaaDoor
open Go.RowKit Go.ChangeShapes Go.WideShapes
set_option linter.unusedVariables false
theorem Tryd.infoT : (Tryd.prog.info? 9).map (fun i => (i.zero, i.size, i.bytes)) = some (some (.string ⟨#[]⟩), 1, 16) := by kernel_rfl
/-- texts in their cells. -/
def strL (ls : List (List UInt8)) : List Value := ls.map fun l => .string (bs l)
theorem strL_push (ls : List (List UInt8)) (l : List UInt8) : strL (ls ++ [l]) = strL ls ++ [.string (bs l)] := by simp [strL]
/-- the slice value at block yb has the texts ls, in memory of the call's own from N on. -/
def TxtsAt (w : World) (N yb yc n : Nat) (ls : List (List UInt8)) : Prop := w.ownsRow N 9 1 (.slice (some ⟨yb, 0, none⟩) n yc) n (strL ls) ∧ ls.length = n
theorem TxtsAt.new {w : World} {N H : Nat} (hH : w.heap.size = H) (hN : N ≤ H) : TxtsAt (w.alloc (.cells #[] 9)) N H 0 0 [] := by
  subst hH
  exact ⟨⟨by simp [strL], .inr ⟨w.heap.size, 0, #[], rfl, hN, heap_alloc_new w _, Nat.le_refl _, by simp, by simp, by simp [strL]⟩⟩, rfl⟩
theorem TxtsAt.lt {w : World} {N yb yc n : Nat} {ls : List (List UInt8)} (h : TxtsAt w N yb yc n ls) : N ≤ yb ∧ yb < w.heap.size := by
  obtain ⟨⟨_, ho⟩, _⟩ := h
  rcases ho with ⟨h0, _⟩ | ⟨g, cap, cur, hv, hg, hc, _⟩
  · cases h0
  injection hv with e1
  injection e1 with e1
  injection e1 with e1
  subst e1
  refine ⟨hg, ?_⟩
  rcases Nat.lt_or_ge yb w.heap.size with h' | h'
  · exact h'
  · simp [Array.getElem?_eq_none h'] at hc
theorem TxtsAt.keep {w w' : World} {N yb yc n : Nat} {ls : List (List UInt8)} (h : TxtsAt w N yb yc n ls) (hb : w'.heap[yb]? = w.heap[yb]?) : TxtsAt w' N yb yc n ls := by
  obtain ⟨⟨hl, ho⟩, hn⟩ := h
  refine ⟨⟨hl, ?_⟩, hn⟩
  rcases ho with ⟨h0, _⟩ | ⟨g, cap, cur, hv, hg, hc, rest⟩
  · cases h0
  have e : yb = g := by injection hv with e1; injection e1 with e1; injection e1
  subst e
  exact .inr ⟨yb, cap, cur, hv, hg, hb.trans hc, rest⟩
theorem TxtsAt.below {w w' : World} {N yb yc n : Nat} {ls : List (List UInt8)} (h : TxtsAt w N yb yc n ls) (hb : Below w.heap.size w w') : TxtsAt w' N yb yc n ls := h.keep (hb.block _ h.lt.2)
theorem TxtsAt.alloc {w : World} {N yb yc n : Nat} {ls : List (List UInt8)} (h : TxtsAt w N yb yc n ls) (o : Obj) : TxtsAt (w.alloc o) N yb yc n ls := h.keep (Below.heap_alloc _ _ _ h.lt.2)
theorem txt_new (w : World) (l : List UInt8) : ∀ j' u, [Value.string (bs l)][j']? = some u → (w.alloc (.cells #[.string (bs l)] 9)).cell? ((⟨w.heap.size, 0, none⟩ : Addr).add j') = some u := by
  intro j' u hu
  match j', hu with
  | 0, hu => simp at hu; subst hu; go_simp
/-- what append leaves. -/
theorem TxtsAt.push {w w' : World} {N n : Nat} {v : Value} {ls : List (List UInt8)} {l : List UInt8} (hn : ls.length = n) (h : w'.ownsRow N 9 1 v (n + 1) (strL ls ++ [.string (bs l)])) : ∃ yb yc, v = .slice (some ⟨yb, 0, none⟩) (n + 1) yc ∧ TxtsAt w' N yb yc (n + 1) (ls ++ [l]) := by
  rcases h.2 with ⟨_, h0⟩ | ⟨b5, c5, _, hv, _⟩
  · omega
  subst hv
  exact ⟨b5, c5, rfl, by rw [strL_push]; exact h, by rw [List.length_append, hn]; rfl⟩
theorem TxtsAt.cells {w : World} {N yb yc n : Nat} {ls : List (List UInt8)} (h : TxtsAt w N yb yc n ls) : n ≤ yc ∧ ∀ (j : Nat) (x : ByteArray), (ls.map bs)[j]? = some x → w.cell? ⟨yb, 0 + j, none⟩ = some (.string x) := by
  obtain ⟨⟨hl, ho⟩, hn⟩ := h
  rcases ho with ⟨h0, _⟩ | ⟨g, cap, cur, hv, hg, hc, hn', hm, hs, ht⟩
  · cases h0
  injection hv with e1 _ e3
  injection e1 with e1
  injection e1 with e1
  subst e1 e3
  refine ⟨hn', fun j x hx => ?_⟩
  have hj : j < ls.length := by have := (List.getElem?_eq_some_iff.1 hx).1; simpa using this
  have hu : (strL ls)[j]? = some (.string x) := by
    rw [List.getElem?_map] at hx
    obtain ⟨l, hl, rfl⟩ := Option.map_eq_some_iff.1 hx
    simp [strL, hl]
  simp only [World.cell?, hc]
  rw [← ht, List.getElem?_take, if_pos (by omega), Array.getElem?_toList] at hu
  simpa using hu
theorem join_len (ls : List (List UInt8)) (sep : List UInt8) (m : Nat) (h : ∀ l ∈ ls, l.length ≤ m) : (Lib.join ls sep).length ≤ (m + sep.length) * ls.length := by
  cases ls with
  | nil => simp [Lib.join_nil]
  | cons x r =>
    rw [Lib.join_cons, List.length_append, List.length_cons]
    have h1 := h x (by simp)
    have h2 : (Lib.joinTail sep r).length ≤ (m + sep.length) * r.length := by
      have hr : ∀ l ∈ r, l.length ≤ m := fun l hl => h l (by simp [hl])
      clear h h1
      unfold Lib.joinTail
      induction r with
      | nil => simp
      | cons y r ih =>
        have h3 := ih (fun l hl => hr l (by simp [hl]))
        have h4 := hr y (by simp)
        rw [List.map_cons, List.flatten_cons, List.length_append, List.length_append, List.length_cons, Nat.mul_succ]
        omega
    rw [Nat.mul_succ]
    omega
theorem map_bs_back (ls : List (List UInt8)) : (ls.map bs).map (·.data.toList) = ls := by
  rw [List.map_map]
  have e : ((fun x : ByteArray => x.data.toList) ∘ bs) = id := by funext l; simp [bs]
  rw [e, List.map_id]
theorem joinT_any (N yb yc n : Nat) (ls : List (List UInt8)) (sep : ByteArray) (w : World) (m : Nat) (h : TxtsAt w N yb yc n ls) (hl : ∀ l ∈ ls, l.length ≤ m) (hm : (m + sep.size) * n ≤ 140737488355328) (hn : n ≤ 140737488355328) :
    Calls Tryd.prog 37 #[.slice (some ⟨yb, 0, none⟩) n yc, .string sep] w fun e w' => e = .returned (.string (bs (Lib.join ls sep.data.toList))) ∧ Below w.heap.size w w' := by
  obtain ⟨hc, hcell⟩ := h.cells
  have hlen : (ls.map bs).length = n := by rw [List.length_map]; exact h.2
  have h1 := Tryd.strings_Join yb 0 yc (ls.map bs) sep w hcell h.lt.2 (by omega) (by omega) (by
    rw [map_bs_back]
    refine Nat.le_trans (join_len ls sep.data.toList m hl) ?_
    have e : sep.data.toList.length = sep.size := Array.length_toList
    rw [e, h.2]
    exact hm)
  rw [hlen, map_bs_back] at h1
  exact h1
end Go.Proofs.YtlpgkhdmilnbgaaDoor
