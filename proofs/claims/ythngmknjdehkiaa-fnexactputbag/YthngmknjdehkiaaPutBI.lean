/- Own text. The bytes of a bag (bagN), and the contract of impl.PutBag. -/
import Derived.Test.YthngmknjdehkiaaPutR
import Derived.Test.YthngmknjdehkiaaBagOkS
import Derived.Handy
namespace Go.Proofs.Ythngmknjdehkiaa
open Go.RowKit
set_option linter.unusedVariables false
/-- the numbers of a text's bytes. -/
def nb (l : List UInt8) : List Int := l.map fun b => (b.toNat : Int)
/-- the numbers of the bytes of counted rows. -/
def csN (cs : List C2) : List Int := cs.flatMap fun x => numL x.n 8 ++ nb (rowU x.r)
/-- the numbers of the bytes of a bag. -/
def bagN (W : Int) (cs : List C2) : List Int := W :: csN cs
/-- the bytes of a bag; the empty text where it is none. -/
def putB (W : Int) (cs : List C2) : ByteArray := if okBag W cs = true then strOfNums (bagN W cs) else ⟨#[]⟩
theorem csN_take {cs : List C2} {k : Nat} {x : C2} (h : cs[k]? = some x) : csN (cs.take (k + 1)) = csN (cs.take k) ++ (numL x.n 8 ++ nb (rowU x.r)) := by
  obtain ⟨hk, rfl⟩ := List.getElem?_eq_some_iff.1 h
  unfold csN
  rw [List.take_succ_eq_append_getElem hk, List.flatMap_append]
  simp
theorem nb_len (l : List UInt8) : (nb l).length = l.length := by simp [nb]
theorem nb_cells (l : List UInt8) : (nb l).map (Value.int .u8) = Lib.byteCells l := by simp [nb, Lib.byteCells, List.map_map]
theorem okCs_mem {W : Int} : ∀ {cs : List C2} {p : Option C2}, okCs W p cs = true → ∀ x ∈ cs, okRow x.r W = true
  | [], _, _, x, hx => by cases hx
  | y :: ys, p, h, x, hx => by
    simp only [okCs, Bool.and_eq_true] at h
    rcases List.mem_cons.1 hx with rfl | hx
    · exact h.1.1.1
    · exact okCs_mem h.2 x hx
theorem okBag_facts {W : Int} {cs : List C2} (h : okBag W cs = true) : 0 ≤ W ∧ W ≤ 12 ∧ cs.length ≤ 400 ∧ ∀ x ∈ cs, x.r.length ≤ 12 := by
  simp only [okBag, Bool.and_eq_true, decide_eq_true_eq] at h
  obtain ⟨⟨⟨h0, h1⟩, h2⟩, h3⟩ := h
  refine ⟨h0, h1, h2, fun x hx => ?_⟩
  have := okCs_mem h3 x hx
  simp only [okRow, Bool.and_eq_true, decide_eq_true_eq] at this
  omega
theorem csN_len {cs : List C2} (h : ∀ x ∈ cs, x.r.length ≤ 12) : (csN cs).length ≤ 1233 * cs.length := by
  induction cs with
  | nil => simp [csN]
  | cons x xs ih =>
    have e : csN (x :: xs) = (numL x.n 8 ++ nb (rowU x.r)) ++ csN xs := by unfold csN; rw [List.flatMap_cons]
    have h1 := ih fun y hy => h y (List.mem_cons_of_mem _ hy)
    have h2 := rowU_len x.r
    have h3 := h x List.mem_cons_self
    rw [e, List.length_append, List.length_append, numL_len, nb_len, List.length_cons]
    omega
theorem own_below {w w' : World} {B e n : Nat} {v : Value} {xs : List Value} (h : w.ownsRow B e 1 v n xs) (hb : Below w.heap.size w w') : w'.ownsRow B e 1 v n xs := by
  refine ⟨h.1, ?_⟩
  rcases h.2 with hn | ⟨g, cap, cur, hv, hg, hc, rest⟩
  · exact .inl hn
  · have hgl : g < w.heap.size := by
      rcases Nat.lt_or_ge g w.heap.size with h' | h'
      · exact h'
      · simp [Array.getElem?_eq_none h'] at hc
    exact .inr ⟨g, cap, cur, hv, hg, (hb.block g hgl).trans hc, rest⟩
theorem own_eq {w : World} {B e n n' : Nat} {v : Value} {xs xs' : List Value} (h : w.ownsRow B e 1 v n xs) (hn : n = n') (hx : xs = xs') : w.ownsRow B e 1 v n' xs' := by subst hn hx; exact h
theorem own_cells {w : World} {B n : Nat} {v : Value} {x : Value} {xs : List Value} (h : w.ownsRow B 5 1 v (n + 1) (x :: xs)) :
    ∃ g cap, v = .slice (some ⟨g, 0, none⟩) (n + 1) cap ∧ ∀ (q : Nat) (u : Value), (x :: xs)[q]? = some u → w.cell? ((⟨g, 0, none⟩ : Addr).add q) = some u := by
  obtain ⟨hl, h⟩ := h
  rcases h with ⟨_, h0⟩ | ⟨g, cap, cur, hv, hg, hc, hn, hm, hs, ht⟩
  · omega
  · refine ⟨g, cap, hv, fun q u hq => ?_⟩
    have hq' : (cur.toList.take ((n + 1) * 1))[q]? = some u := by rw [ht]; exact hq
    rw [List.getElem?_take] at hq'
    split at hq'
    · have : ((⟨g, 0, none⟩ : Addr).add q) = ⟨g, q, none⟩ := by unfold Addr.add; split <;> simp_all
      rw [this]
      simp only [World.cell?, hc]
      simpa using hq'
    · cases hq'
set_option maxHeartbeats 4000000 in
set_option maxRecDepth 100000 in
theorem implPutBag_any (W : Int) (v : Value) (cs : List C2) (w : World) (hw : CsWf cs) (hr : RowsIs w v cs) :
    Calls Try.prog 24 #[.agg #[.int .i64 W, v]] w fun e w' => e = .returned (.string (putB W cs)) ∧ Below w.heap.size w w' := by
  obtain ⟨i0, hi, hi0, hi1, hi2⟩ := info_parts info5
  have hr0 := hr
  obtain ⟨a, c, b, o, rfl, hl, hc, ha⟩ := hr.pick
  unfold maxLen at hc
  go_enter Try.func24, Try.ntmps24
  go_wp2_with fail
  refine Calls.mono (implBagOk_any W (.slice a cs.length c) cs _ hw (hr0.below ?hb)) ?_
  case hb => repeat (first | exact Below.refl _ _ | refine Below.drew ?_ | refine Below.alloc ?_ (by first | (simp; done) | (simp; omega) | omega) _ | refine Below.setCell ?_ (by first | (simp; done) | (simp; omega) | omega) _ | refine bstep (by assumption) (by first | (simp; done) | (simp; omega) | omega) ?_)
  rintro e w1 ⟨rfl, hb1⟩
  have hz1 := hb1.size
  simp only [World.size_alloc] at hz1
  have p0 : w1.cell? ⟨w.heap.size, 0, none⟩ = some (.int .i64 W) := cell_later hb1 (by go_simp)
  have p1 : w1.cell? ⟨w.heap.size, 1, none⟩ = some (.slice a cs.length c) := cell_later hb1 (by go_simp)
  have bel1 : Below w.heap.size w w1 := by repeat (first | exact Below.refl _ _ | refine Below.drew ?_ | refine Below.alloc ?_ (by first | (simp; done) | (simp; omega) | omega) _ | refine Below.setCell ?_ (by first | (simp; done) | (simp; omega) | omega) _ | refine bstep (by assumption) (by first | (simp; done) | (simp; omega) | omega) ?_)
  have hsz1 : w.heap.size < w1.heap.size := by omega
  by_cases hok : okBag W cs = true
  rotate_left
  · have hf : okBag W cs = false := by simpa using hok
    go_wp2
    go_returns
    exact ⟨by simp [putB, hf], bel1⟩
  obtain ⟨hW0, hW1, hlen, hrl⟩ := okBag_facts hok
  have hWm : W % 256 = W := by omega
  have HP : Hid (putB W cs = strOfNums (bagN W cs)) := by simp [Hid, putB, hok]
  have hr1 := hr0.below bel1
  clear hr hr0 ha
  obtain ⟨a', c', b, o, hv', _, _, ha⟩ := hr1.pick
  obtain ⟨rfl, rfl⟩ : a = a' ∧ c = c' := by simpa using hv'
  clear hv' hr1
  go_wp2
  go_loopw [3, 16] (fun v i wr => ∃ k : Nat, k ≤ cs.length ∧ i = .int .i64 k ∧ wr.ownsRow w1.heap.size 5 1 v (bagN W (cs.take k)).length ((bagN W (cs.take k)).map (Value.int .u8)) ∧ Below w1.heap.size w1 wr) (fun _ i _ => cs.length - (intOf i).toNat)
  case atStart => exact ⟨0, Nat.zero_le _, rfl, own_start w1 W, by repeat (first | exact Below.refl _ _ | refine Below.drew ?_ | refine Below.alloc ?_ (by first | (simp; done) | (simp; omega) | omega) _ | refine Below.setCell ?_ (by first | (simp; done) | (simp; omega) | omega) _ | refine bstep (by assumption) (by first | (simp; done) | (simp; omega) | omega) ?_)⟩
  case round =>
    obtain ⟨k, hk, rfl, hown, hb⟩ := hrel
    have hzb := hb.size
    have hkl : (bagN W (cs.take k)).length ≤ 500000 := by
      have := csN_len (cs := cs.take k) fun x hx => hrl x (List.mem_of_mem_take hx)
      have h2 : (cs.take k).length ≤ 400 := by simp; omega
      simp only [bagN, List.length_cons]; omega
    by_cases hlt : k < cs.length
    · obtain ⟨rfl, hblt, hL⟩ := ha k hlt
      obtain ⟨x, hx⟩ : ∃ x, cs[k]? = some x := ⟨cs[k], by simp [hlt]⟩
      obtain ⟨u, e0, hR, e2⟩ := hL k x hx
      have c0 : wr.cell? ⟨b, o + k * 2, none⟩ = some u := (hb.cell (p := ⟨b, o + k * 2, none⟩) hblt).trans e0
      have c1 : wr.cell? ⟨b, o + k * 2 + 1, none⟩ = some (.int .i64 x.n) := (hb.cell (p := ⟨b, o + k * 2 + 1, none⟩) hblt).trans e2
      have hbr : b < wr.heap.size := Nat.lt_of_lt_of_le hblt hzb
      obtain ⟨ur, lr, cr, rfl⟩ := hR.shape
      have HX : Hid (cs[k]? = some x) := hx
      clear e0 e2
      have hxw : VsWf x.r := (hw x (List.mem_of_getElem? hx)).1
      have hxl : x.r.length ≤ 12 := hrl x (List.mem_of_getElem? hx)
      have hxu := rowU_len x.r
      clear ha hL hx hw hrl
      go_wp2_with fail
      refine Calls.mono (numberBytes_any x.n _) ?_
      rintro e w2 ⟨y, rfl, hy, hb2⟩
      have hz2 := hb2.size
      simp at hz2
      have hown2 := own_below (hown.alloc (.cells #[.slice ur lr cr, .int .i64 x.n] 72)) hb2
      have q0 : w2.cell? ⟨wr.heap.size, 0, none⟩ = some (.slice ur lr cr) := cell_later hb2 (by go_simp)
      have bel2 : Below w1.heap.size w1 w2 := by repeat (first | exact Below.refl _ _ | refine Below.drew ?_ | refine Below.alloc ?_ (by first | (simp; done) | (simp; omega) | omega) _ | refine Below.setCell ?_ (by first | (simp; done) | (simp; omega) | omega) _ | refine bstep (by assumption) (by first | (simp; done) | (simp; omega) | omega) ?_)
      obtain ⟨g, cap, rfl, hcl⟩ := own_cells hy
      go_wp2_with (at_builtin; refine wpList_append_own _ rfl _ _ 75 rfl w1.heap.size 5 i0 (.int .u8 0) 1 1 Try.underlying75 hi hi0 hi1 hi2 rfl (by decide) _ _ _ rfl hown2 ⟨g, 0, none⟩ 9 cap ((numL x.n 8).map (Value.int .u8)) rfl (by simp [numL_len]) hcl ?c2 ?c3 ?c4 ?c5 ?_)
      case c2 => intro u hu; obtain ⟨n, _, rfl⟩ := List.mem_map.1 hu; rfl
      case c3 => unfold maxLen; omega
      case c4 => omega
      case c5 => omega
      intro v3 w3 hown3 hgr3 _
      have hz3 := hgr3.size
      have bel3 : Below w1.heap.size w1 w3 := bel2.grown hgr3 (by omega) (fun k hk => (hown2.lt k hk).1)
      have q3 : w3.cell? ⟨wr.heap.size, 0, none⟩ = some (.slice ur lr cr) := (World.cell?_of_block (w := w2) (hgr3.block wr.heap.size (by omega) (fun e => by have := (hown.lt _ e.symm).2; omega))).trans q0
      clear hown2 hgr3 hown q0 hcl hy
      go_wp2_with fail
      refine Calls.mono (rowBytes_any _ x.r _ (hR.below bel3) hxw (by omega)) ?_
      rintro e w4 ⟨rfl, hb4⟩
      have hz4 := hb4.size
      have hown4 := own_below hown3 hb4
      have bel4 : Below w1.heap.size w1 w4 := by repeat (first | exact Below.refl _ _ | refine Below.drew ?_ | refine Below.alloc ?_ (by first | (simp; done) | (simp; omega) | omega) _ | refine Below.setCell ?_ (by first | (simp; done) | (simp; omega) | omega) _ | refine bstep (by assumption) (by first | (simp; done) | (simp; omega) | omega) ?_)
      clear hown3
      go_wp2_with (at_builtin; refine Lib.wpList_append_own_string _ rfl _ _ 75 9 rfl w1.heap.size 5 i0 Try.underlying75 Try.underlying9 hi hi0 hi1 hi2 _ _ _ rfl hown4 ⟨(rowU x.r).toArray⟩ rfl ?d3 ?d4 ?d5 ?_)
      case d3 => have : (⟨(rowU x.r).toArray⟩ : ByteArray).size = (rowU x.r).length := by simp [ByteArray.size]
                 unfold maxLen; omega
      case d4 => have : (⟨(rowU x.r).toArray⟩ : ByteArray).size = (rowU x.r).length := by simp [ByteArray.size]
                 omega
      case d5 => omega
      intro v5 w5 hown5 hgr5 _
      have hz5 := hgr5.size
      have bel5 : Below w1.heap.size w1 w5 := bel4.grown hgr5 (by omega) (fun k hk => (hown4.lt k hk).1)
      have eN : bagN W (cs.take (k + 1)) = bagN W (cs.take k) ++ (numL x.n 8 ++ nb (rowU x.r)) := by unfold bagN; rw [csN_take HX.out]; rfl
      have R5 : w5.ownsRow w1.heap.size 5 1 v5 (bagN W (cs.take (k + 1))).length ((bagN W (cs.take (k + 1))).map (Value.int .u8)) := by
        refine own_eq hown5 ?_ ?_
        · rw [eN]; simp only [List.length_append, numL_len, nb_len]; simp; omega
        · rw [eN]; simp only [List.map_append, nb_cells]; rfl
      clear hown5 hgr5 hown4 eN
      go_wp2
      go_roundw
      case rel => exact ⟨k + 1, hlt, by simp, R5, bel5⟩
      case measure => simp [intOf]; omega
    · clear ha hw hrl
      obtain rfl : k = cs.length := by omega
      rw [List.take_length] at hown
      have hcv := conv_own (bagN W cs) hown (by simp [bagN])
      go_wp2
      go_returns
      exact ⟨ret_str HP.out.symm, bel1.trans (hb.mono (by omega))⟩
end Go.Proofs.Ythngmknjdehkiaa
