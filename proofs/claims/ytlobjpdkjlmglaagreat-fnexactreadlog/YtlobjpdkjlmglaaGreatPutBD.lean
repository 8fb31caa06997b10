/- Own text. (The words alone.) The bytes of a bag (bagN), and the contract of impl.PutBag. -/
import Derived.Test.YtlobjpdkjlmglaaGreatPutR
import Derived.Test.YtlobjpdkjlmglaaGreatBagOkS
import Derived.Handy
namespace Go.Proofs.YtlobjpdkjlmglaaGreat
open Go.RowKit
set_option linter.unusedVariables false
/-- the numbers of a text's bytes. -/
def nb (l : List UInt8) : List Int := l.map fun b => (b.toNat : Int)
/-- the numbers of the bytes of counted rows. -/
def csN (cs : List C2) : List Int := cs.flatMap fun x => numL x.n 8 ++ nb (rowU x.r)
/-- the numbers of the bytes of a bag. -/
def bagN (W : Int) (cs : List C2) : List Int := W :: csN cs
/-- the bytes of a bag; the empty text where it is none. -/
def putB (W : Int) (cs : List C2) : ByteArray := if okBag W cs = true then strOfNums (bagN W cs) else ⟨#[]⟩
theorem csN_take {cs : List C2} {k : Nat} {x : C2} (h : cs[k]? = some x) : csN (cs.take (k + 1)) = csN (cs.take k) ++ (numL x.n 8 ++ nb (rowU x.r)) := by
  obtain ⟨hk, rfl⟩ := List.getElem?_eq_some_iff.1 h
  unfold csN
  rw [List.take_succ_eq_append_getElem hk, List.flatMap_append]
  simp
theorem nb_len (l : List UInt8) : (nb l).length = l.length := by simp [nb]
theorem nb_cells (l : List UInt8) : (nb l).map (Value.int .u8) = Lib.byteCells l := by simp [nb, Lib.byteCells, List.map_map]
theorem okCs_mem {W : Int} : ∀ {cs : List C2} {p : Option C2}, okCs W p cs = true → ∀ x ∈ cs, okRow x.r W = true
  | [], _, _, x, hx => by cases hx
  | y :: ys, p, h, x, hx => by
    simp only [okCs, Bool.and_eq_true] at h
    rcases List.mem_cons.1 hx with rfl | hx
    · exact h.1.1.1
    · exact okCs_mem h.2 x hx
theorem okBag_facts {W : Int} {cs : List C2} (h : okBag W cs = true) : 0 ≤ W ∧ W ≤ 12 ∧ cs.length ≤ 400 ∧ ∀ x ∈ cs, x.r.length ≤ 12 := by
  simp only [okBag, Bool.and_eq_true, decide_eq_true_eq] at h
  obtain ⟨⟨⟨h0, h1⟩, h2⟩, h3⟩ := h
  refine ⟨h0, h1, h2, fun x hx => ?_⟩
  have := okCs_mem h3 x hx
  simp only [okRow, Bool.and_eq_true, decide_eq_true_eq] at this
  omega
theorem csN_len {cs : List C2} (h : ∀ x ∈ cs, x.r.length ≤ 12) : (csN cs).length ≤ 1233 * cs.length := by
  induction cs with
  | nil => simp [csN]
  | cons x xs ih =>
    have e : csN (x :: xs) = (numL x.n 8 ++ nb (rowU x.r)) ++ csN xs := by unfold csN; rw [List.flatMap_cons]
    have h1 := ih fun y hy => h y (List.mem_cons_of_mem _ hy)
    have h2 := rowU_len x.r
    have h3 := h x List.mem_cons_self
    rw [e, List.length_append, List.length_append, numL_len, nb_len, List.length_cons]
    omega
theorem own_below {w w' : World} {B e n : Nat} {v : Value} {xs : List Value} (h : w.ownsRow B e 1 v n xs) (hb : Below w.heap.size w w') : w'.ownsRow B e 1 v n xs := by
  refine ⟨h.1, ?_⟩
  rcases h.2 with hn | ⟨g, cap, cur, hv, hg, hc, rest⟩
  · exact .inl hn
  · have hgl : g < w.heap.size := by
      rcases Nat.lt_or_ge g w.heap.size with h' | h'
      · exact h'
      · simp [Array.getElem?_eq_none h'] at hc
    exact .inr ⟨g, cap, cur, hv, hg, (hb.block g hgl).trans hc, rest⟩
theorem own_eq {w : World} {B e n n' : Nat} {v : Value} {xs xs' : List Value} (h : w.ownsRow B e 1 v n xs) (hn : n = n') (hx : xs = xs') : w.ownsRow B e 1 v n' xs' := by subst hn hx; exact h
theorem own_cells {w : World} {B n : Nat} {v : Value} {x : Value} {xs : List Value} (h : w.ownsRow B 5 1 v (n + 1) (x :: xs)) :
    ∃ g cap, v = .slice (some ⟨g, 0, none⟩) (n + 1) cap ∧ ∀ (q : Nat) (u : Value), (x :: xs)[q]? = some u → w.cell? ((⟨g, 0, none⟩ : Addr).add q) = some u := by
  obtain ⟨hl, h⟩ := h
  rcases h with ⟨_, h0⟩ | ⟨g, cap, cur, hv, hg, hc, hn, hm, hs, ht⟩
  · omega
  · refine ⟨g, cap, hv, fun q u hq => ?_⟩
    have hq' : (cur.toList.take ((n + 1) * 1))[q]? = some u := by rw [ht]; exact hq
    rw [List.getElem?_take] at hq'
    split at hq'
    · have : ((⟨g, 0, none⟩ : Addr).add q) = ⟨g, q, none⟩ := by unfold Addr.add; split <;> simp_all
      rw [this]
      simp only [World.cell?, hc]
      simpa using hq'
    · cases hq'
end Go.Proofs.YtlobjpdkjlmglaaGreat
