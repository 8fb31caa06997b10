/- Own texts, joined: contracts that the law's proof goes by. -/
import Derived.Test.YtdkbhoichmcodaaStpK
import Derived.Test.YtdkbhoichmcodaaSchP
import Derived.Test.YtdkbhoichmcodaaBagOkI
import Derived.Handy
import Derived.Test.YtdkbhoichmcodaaSzP
import Derived.Test.YtdkbhoichmcodaaBagO
import Derived.Test.YtdkbhoichmcodaaTake
import Derived.Deep.RegionHeld3
import Derived.Test.YtdkbhoichmcodaaStrK
import Derived.Test.YtdkbhoichmcodaaHasP
import Derived.Test.YtdkbhoichmcodaaShelf
import Derived.Below
import Derived.BigQuiet
import Derived.Test.YtdkbhoichmcodaaPutBD
import Derived.Test.YtdkbhoichmcodaaPutR
import Derived.Test.YtdkbhoichmcodaaBagOkS
/- Own text. Whether a step is right, in plain words. -/
namespace Go.Proofs.Ytdkbhoichmcodaa
open Go.RowKit
set_option linter.unusedVariables false
theorem belowN {N : Nat} {w a : World} (h : Below N w a) (n : Nat) : Below N w (a.drewN n) := ⟨h.os, h.tape, h.output, h.size, h.block⟩
/-- whether the name before, if there is one, is less. -/
def okPrevT (p : Option R3) (x : R3) : Bool := match p with
  | none => true
  | some y => Op.bytesLess y.s.toList x.s.toList
/-- whether relations have names and bags, and ascend. -/
def okTs : Option R3 → List R3 → Bool
  | _, [] => true
  | p, x :: xs => nameB x.s && okBag x.W x.cs && okPrevT p x && okTs (some x) xs
def prevT (rs : List R3) (k : Nat) : Option R3 := if k = 0 then none else rs[k - 1]?
/-- whether relations are a step's change. -/
def okRels (rs : List R3) : Bool := inB rs.length 1 20 && okTs none rs
theorem okTs_step {rs : List R3} {k : Nat} {x : R3} (h : rs[k]? = some x) :
    okTs (prevT rs k) (rs.drop k) = (nameB x.s && okBag x.W x.cs && okPrevT (prevT rs k) x && okTs (prevT rs (k + 1)) (rs.drop (k + 1))) := by
  obtain ⟨hk, rfl⟩ := List.getElem?_eq_some_iff.1 h
  rw [List.drop_eq_getElem_cons hk]
  simp [okTs, prevT, hk]
theorem prevT_zero (rs : List R3) : prevT rs 0 = none := rfl
theorem prevT_succ {rs : List R3} {j : Nat} {y : R3} (h : rs[j]? = some y) : prevT rs (j + 1) = some y := by simp [prevT, h]
/-- whether a step is right. -/
def okStep (x : T5) : Bool :=
  if x.k = 0 then okSch [⟨x.s, x.cs⟩] && x.q.toList.isEmpty && x.rs.isEmpty
  else if x.k = 1 then nameB x.s && x.cs.isEmpty && decide (x.q.size ≤ 1000) && x.rs.isEmpty
  else if x.k = 2 then nameB x.s && x.cs.isEmpty && x.q.toList.isEmpty && x.rs.isEmpty
  else if x.k = 3 then x.s.toList.isEmpty && x.cs.isEmpty && x.q.toList.isEmpty && okRels x.rs
  else false
end Go.Proofs.Ytdkbhoichmcodaa
/- Own text. A step's bytes, in plain words; how many they are. -/
namespace Go.Proofs.Ytdkbhoichmcodaa
open Go.RowKit
set_option linter.unusedVariables false
/-- the bytes of columns. -/
def csL (cs : List ByteArray) : List Int := cs.flatMap fun c => tN c 2
/-- the bytes of a relation. -/
def rlL (r : R3) : List Int := tN r.s 2 ++ tN (putB r.W r.cs) 4
def rlsL (rs : List R3) : List Int := rs.flatMap rlL
/-- the bytes of a step's head, of it with its columns, of it with its question, of the whole. -/
def hdL (x : T5) : List Int := szN x.k 1 ++ tN x.s 2 ++ szN x.cs.length 1
def mdL (x : T5) : List Int := hdL x ++ csL x.cs ++ tN x.q 2 ++ szN x.rs.length 1
def stepL (x : T5) : List Int := mdL x ++ rlsL x.rs
/-- a step's text. -/
def putT (x : T5) : ByteArray := if okStep x = true then strOfNums (stepL x) else ⟨#[]⟩
theorem csL_take {cs : List ByteArray} {k : Nat} {c : ByteArray} (h : cs[k]? = some c) : csL (cs.take (k + 1)) = csL (cs.take k) ++ tN c 2 := by
  obtain ⟨hk, rfl⟩ := List.getElem?_eq_some_iff.1 h
  rw [List.take_succ_eq_append_getElem hk]
  unfold csL
  rw [List.flatMap_append, List.flatMap_singleton]
theorem rlsL_take {rs : List R3} {k : Nat} {r : R3} (h : rs[k]? = some r) : rlsL (rs.take (k + 1)) = rlsL (rs.take k) ++ rlL r := by
  obtain ⟨hk, rfl⟩ := List.getElem?_eq_some_iff.1 h
  rw [List.take_succ_eq_append_getElem hk]
  unfold rlsL
  rw [List.flatMap_append, List.flatMap_singleton]
theorem nameB_size {s : ByteArray} (h : nameB s = true) : s.size ≤ 10 := by
  unfold nameB at h
  rw [Bool.and_eq_true] at h
  have := h.2
  simp [inB] at this
  omega
theorem colsB_names : ∀ {cs pre : List ByteArray}, colsB pre cs = true → ∀ c ∈ cs, nameB c = true
  | [], _, _, c, hc => by cases hc
  | x :: r, pre, h, c, hc => by
    rw [colsB, Bool.and_eq_true, Bool.and_eq_true] at h
    rcases List.mem_cons.1 hc with rfl | hc
    · exact h.1.1
    · exact colsB_names h.2 c hc
theorem okTs_each : ∀ {rs : List R3} {p : Option R3}, okTs p rs = true → ∀ r ∈ rs, nameB r.s = true ∧ okBag r.W r.cs = true
  | [], _, _, c, hc => by cases hc
  | x :: r, p, h, c, hc => by
    rw [okTs, Bool.and_eq_true, Bool.and_eq_true, Bool.and_eq_true] at h
    rcases List.mem_cons.1 hc with rfl | hc
    · exact ⟨h.1.1.1, h.1.1.2⟩
    · exact okTs_each h.2 c hc
theorem putB_size (W : Int) (cs : List C2) : (putB W cs).size ≤ 493201 := by
  unfold putB
  split
  · rename_i h
    obtain ⟨_, _, h1, h2⟩ := okBag_facts h
    rw [nums_size]
    have := csN_len h2
    simp [bagN]
    omega
  · exact Nat.zero_le _
/-- what a right step's parts are bound by. -/
structure Bnd (x : T5) : Prop where
  k0 : 0 ≤ x.k
  k3 : x.k ≤ 3
  s : x.s.size ≤ 10
  cl : x.cs.length ≤ 12
  c : ∀ c ∈ x.cs, c.size ≤ 10
  q : x.q.size ≤ 1000
  rl : x.rs.length ≤ 20
  r : ∀ r ∈ x.rs, r.s.size ≤ 10
theorem empty_size {s : ByteArray} (h : s.toList.isEmpty = true) : s.size = 0 := by
  rw [ByteArray.toList_eq] at h
  have : s.data.toList = [] := by simpa using h
  have e : s.data.size = 0 := by rw [← Array.length_toList, this]; rfl
  exact e
theorem okStep_bnd {x : T5} (h : okStep x = true) : Bnd x := by
  unfold okStep at h
  split at h
  · rename_i hk
    simp only [Bool.and_eq_true] at h
    obtain ⟨⟨h1, h2⟩, h3⟩ := h
    simp only [okSch, okHs, okPrevH, Bool.and_true, Bool.and_eq_true] at h1
    obtain ⟨_, h4, h5⟩ := h1
    simp only [okCols, Bool.and_eq_true] at h5
    have h6 := h5.1
    simp [inB] at h6
    have h7 : x.rs = [] := by simpa using h3
    exact ⟨by omega, by omega, nameB_size h4, by omega, fun c hc => nameB_size (colsB_names h5.2 c hc), by rw [empty_size h2]; omega, by rw [h7]; simp, (by rw [h7]; intro r hr; cases hr)⟩
  split at h
  · rename_i _ hk
    simp only [Bool.and_eq_true] at h
    obtain ⟨⟨⟨h1, h2⟩, h4⟩, h3⟩ := h
    have h7 : x.rs = [] := by simpa using h3
    have h8 : x.cs = [] := by simpa using h2
    exact ⟨by omega, by omega, nameB_size h1, by rw [h8]; simp, (by rw [h8]; intro r hr; cases hr), by simpa using h4, by rw [h7]; simp, (by rw [h7]; intro r hr; cases hr)⟩
  split at h
  · rename_i _ _ hk
    simp only [Bool.and_eq_true] at h
    obtain ⟨⟨⟨h1, h2⟩, h4⟩, h3⟩ := h
    have h7 : x.rs = [] := by simpa using h3
    have h8 : x.cs = [] := by simpa using h2
    exact ⟨by omega, by omega, nameB_size h1, by rw [h8]; simp, (by rw [h8]; intro r hr; cases hr), by rw [empty_size h4]; omega, by rw [h7]; simp, (by rw [h7]; intro r hr; cases hr)⟩
  split at h
  · rename_i _ _ _ hk
    simp only [Bool.and_eq_true] at h
    obtain ⟨⟨⟨h1, h2⟩, h4⟩, h3⟩ := h
    have h8 : x.cs = [] := by simpa using h2
    simp only [okRels, Bool.and_eq_true] at h3
    have h6 := h3.1
    simp [inB] at h6
    exact ⟨by omega, by omega, by rw [empty_size h1]; omega, by rw [h8]; simp, (by rw [h8]; intro r hr; cases hr), by rw [empty_size h4]; omega, by omega, fun r hr => nameB_size (okTs_each h3.2 r hr).1⟩
  · cases h
theorem csL_len {cs : List ByteArray} (h : ∀ c ∈ cs, c.size ≤ 10) : (csL cs).length ≤ 12 * cs.length := by
  induction cs with
  | nil => simp [csL]
  | cons a l ih =>
    have h1 := ih fun c hc => h c (List.mem_cons_of_mem _ hc)
    have h2 := h a List.mem_cons_self
    simp only [csL, List.flatMap_cons, List.length_append, tN_len, List.length_cons] at h1 ⊢
    omega
theorem rlL_len {r : R3} (h : r.s.size ≤ 10) : (rlL r).length ≤ 493300 := by
  have := putB_size r.W r.cs
  simp only [rlL, List.length_append, tN_len]
  omega
theorem rlsL_len {rs : List R3} (h : ∀ r ∈ rs, r.s.size ≤ 10) : (rlsL rs).length ≤ 493300 * rs.length := by
  induction rs with
  | nil => simp [rlsL]
  | cons a l ih =>
    have h1 := ih fun c hc => h c (List.mem_cons_of_mem _ hc)
    have h2 := rlL_len (h a List.mem_cons_self)
    simp only [rlsL, List.flatMap_cons, List.length_append, List.length_cons] at h1 ⊢
    omega
theorem hdL_len {x : T5} (h : Bnd x) : (hdL x).length ≤ 14 := by
  have := h.s
  simp only [hdL, List.length_append, tN_len, szN_len]
  omega
theorem hc_len {x : T5} (h : Bnd x) (k : Nat) : (hdL x ++ csL (x.cs.take k)).length ≤ 158 := by
  have h1 := hdL_len h
  have h2 := csL_len (cs := x.cs.take k) fun c hc => h.c c (List.mem_of_mem_take hc)
  have h3 := h.cl
  rw [List.length_append]
  rw [List.length_take] at h2
  omega
theorem mdL_len {x : T5} (h : Bnd x) : (mdL x).length ≤ 1161 := by
  have h1 := hc_len h x.cs.length
  have h2 := h.q
  rw [List.take_length, List.length_append] at h1
  simp only [mdL, List.length_append, tN_len, szN_len]
  omega
theorem md_len {x : T5} (h : Bnd x) (k : Nat) : (mdL x ++ rlsL (x.rs.take k)).length ≤ 10000000 := by
  have h1 := mdL_len h
  have h2 := rlsL_len (rs := x.rs.take k) fun c hc => h.r c (List.mem_of_mem_take hc)
  have h3 := h.rl
  rw [List.length_append]
  rw [List.length_take] at h2
  omega
theorem stepL_len {x : T5} (h : Bnd x) : (stepL x).length ≤ 10000000 := by
  have := md_len h x.rs.length
  rwa [List.take_length] at this
theorem mdL_ne (x : T5) : stepL x ≠ [] := by
  intro e
  have : (stepL x).length = 0 := by rw [e]; rfl
  simp only [stepL, mdL, hdL, List.length_append, tN_len, szN_len] at this
  omega
end Go.Proofs.Ytdkbhoichmcodaa
/- Own text. The packer: a block with one slice of bytes that grows by append; the contracts of its methods. -/
namespace Go.Proofs.Ytdkbhoichmcodaa
open Go.RowKit Go.Deep
set_option linter.unusedVariables false
/-- block P is a packer that has the bytes L, in memory of its own from N on. -/
structure Pk (w : World) (N P : Nat) (u : Value) (L : List Int) : Prop where
  le : N ≤ P
  blk : w.heap[P]? = some (.cells #[u] 109 (0, 0))
  own : w.ownsRow N 5 1 u L.length (L.map (Value.int .u8))
theorem own_type {w : World} {N n e s g : Nat} {v : Value} {xs : List Value} {c : Array Value} {t : TypeId} {l : Nat × Nat} (h : w.ownsRow N e s v n xs) (hb : w.heap[g]? = some (.cells c t l)) (ht : t ≠ e) : v.ownBlock ≠ some g := by
  intro e'
  rcases h.2 with ⟨rfl, _⟩ | ⟨g', cap, cur, rfl, _, hc, _⟩
  · simp [Value.ownBlock] at e'
  · simp [Value.ownBlock] at e'
    subst e'
    rw [hb] at hc
    simp at hc
    exact ht hc.2.1
theorem Pk.ne {w : World} {N P : Nat} {u : Value} {L : List Int} (h : Pk w N P u L) : u.ownBlock ≠ some P := own_type h.own h.blk (by decide)
theorem set_one {w : World} {P : Nat} {u v : Value} {t : TypeId} (h : w.heap[P]? = some (.cells #[u] t (0, 0))) : (w.setCell ⟨P, 0, none⟩ v).heap[P]? = some (.cells #[v] t (0, 0)) := by
  simp [World.setCell, Array.getElem?_modify, h]
/-- what is not of bytes stays, block P aside. -/
structure Kp (P : Nat) (w w' : World) : Prop where
  size : w.heap.size ≤ w'.heap.size
  block : ∀ b c t l, w.heap[b]? = some (.cells c t l) → t ≠ 5 → b ≠ P → w'.heap[b]? = w.heap[b]?
theorem Kp.trans {P : Nat} {w w1 w2 : World} (h : Kp P w w1) (k : Kp P w1 w2) : Kp P w w2 :=
  ⟨Nat.le_trans h.size k.size, fun b c t l hb ht hP => by
    have e := h.block b c t l hb ht hP
    exact (k.block b c t l (e.trans hb) ht hP).trans e⟩
theorem lt_of_heap {w : World} {b : Nat} {o : Obj} (h : w.heap[b]? = some o) : b < w.heap.size := by
  rcases Nat.lt_or_ge b w.heap.size with h' | h'
  · exact h'
  · simp [Array.getElem?_eq_none h'] at h
theorem Kp.of_below {P : Nat} {w w' : World} (h : Below w.heap.size w w') : Kp P w w' := ⟨h.size, fun b c t l hb _ _ => h.block b (lt_of_heap hb)⟩
theorem Pk.lt {w : World} {N P : Nat} {u : Value} {L : List Int} (h : Pk w N P u L) : P < w.heap.size := lt_of_heap h.blk
theorem Pk.keep {w w' : World} {N P : Nat} {u : Value} {L : List Int} (h : Pk w N P u L) (hb : Below w.heap.size w w') : Pk w' N P u L :=
  ⟨h.le, (hb.block P h.lt).trans h.blk, ownsRow_keep h.own fun b hv => hb.block b (ownsRow_lt h.own b hv).2⟩
theorem Pk.eq {w : World} {N P : Nat} {u : Value} {L M : List Int} (h : Pk w N P u L) (e : L = M) : Pk w N P u M := e ▸ h
theorem Pk.new (w : World) (N : Nat) (hN : N ≤ w.heap.size) : Pk (w.alloc (.cells #[.slice none 0 0] 109)) N w.heap.size (.slice none 0 0) [] :=
  ⟨hN, heap_alloc_new w _, ⟨rfl, .inl ⟨rfl, rfl⟩⟩⟩
set_option maxHeartbeats 2000000 in
set_option maxRecDepth 100000 in
theorem ladd_any (N P : Nat) (u : Value) (L M : List Int) (ad : Addr) (m c : Nat) (w : World) (h : Pk w N P u L) (hm : m = M.length) (hnews : ∀ (j : Nat) (y : Value), (M.map (Value.int .u8))[j]? = some y → w.cell? (ad.add j) = some y) (hlen : L.length + M.length ≤ 140737488355328) :
    Calls Try.prog 118 #[.pointer (some ⟨P, 0, none⟩), .slice (some ad) m c] w fun e w' => e = .returned (.tuple #[]) ∧ (∃ u', Pk w' N P u' (L ++ M)) ∧ Below N w w' ∧ Kp P w w' := by
  subst hm
  obtain ⟨i0, hi, hz0, hz1, hz2⟩ := info_parts info5
  have hlt := h.lt
  have hne := h.ne
  obtain ⟨hle, hbk, hown⟩ := h
  have c0 : w.cell? ⟨P, 0, none⟩ = some u := by rw [Lib.cell_of_heap hbk]; rfl
  go_enter Try.func118, Try.ntmps118
  go_wp2_with (at_builtin; refine wpList_append_own _ rfl _ _ 105 rfl N 5 i0 (.int .u8 0) 1 1 Try.underlying105 hi hz0 hz1 hz2 rfl (by decide) _ _ _ rfl hown ad M.length c (M.map (Value.int .u8)) rfl (by simp) hnews ?c2 ?c3 ?c4 ?c5 ?_)
  case c2 => intro y hy; obtain ⟨z, _, rfl⟩ := List.mem_map.1 hy; rfl
  case c3 => unfold maxLen; omega
  case c4 => omega
  case c5 => omega
  intro v' w2 hown' hgrow _
  have hbP : w2.heap[P]? = some (.cells #[u] 109 (0, 0)) := (hgrow.block P hlt (fun e => hne e.symm)).trans hbk
  have d0 : w2.cell? ⟨P, 0, none⟩ = some u := by rw [Lib.cell_of_heap hbP]; rfl
  have f0 : w2.frozen? ⟨P, 0, none⟩ = false := Lib.frozen_of_heap hbP 0
  have hne' := own_type hown' hbP (by decide)
  have HB : Hid (Below N w w2) := (Below.refl N w).grown hgrow (by omega) (fun k hk => (hown.lt k hk).1)
  have HK : Hid (∀ b c t l, w.heap[b]? = some (.cells c t l) → t ≠ 5 → b ≠ P → w2.heap[b]? = w.heap[b]?) := fun b c t l hb ht hP => hgrow.block b (lt_of_heap hb) (fun e => own_type hown hb ht e.symm)
  have hs : ∃ ao n' cap, v' = .slice ao n' cap := by
    rcases hown'.2 with ⟨hv, _⟩ | ⟨g, cap, cur, hv, _⟩ <;> exact ⟨_, _, _, hv⟩
  obtain ⟨ao, n', cap, rfl⟩ := hs
  have hsz := hgrow.size
  clear hgrow hown
  go_wp2
  go_end0
  refine ⟨rfl, ⟨_, hle, set_one hbP, ?_⟩, HB.out.setCell (p := ⟨P, 0, none⟩) hle _, ⟨by simpa using hsz, fun b c t l hb ht hP => ?_⟩⟩
  · rw [List.map_append, List.length_append]
    exact ownsRow_keep hown' fun b hv => Below.heap_setCell _ _ _ _ (by rintro rfl; exact hne' hv)
  · exact (Below.heap_setCell _ _ _ _ (by simpa using hP)).trans (HK.out b c t l hb ht hP)
theorem own_row {w : World} {N n : Nat} {v : Value} {L : List Int} (h : w.ownsRow N 5 1 v n (L.map (Value.int .u8))) (hn : 0 < n) :
    ∃ g cap, v = .slice (some ⟨g, 0, none⟩) n cap ∧ N ≤ g ∧ g < w.heap.size ∧ n ≤ cap ∧ cap ≤ maxLen ∧ ∀ (j : Nat) (y : Value), (L.map (Value.int .u8))[j]? = some y → w.cell? ⟨g, j, none⟩ = some y := by
  have h1 := h.1
  rcases h.2 with ⟨_, h0⟩ | ⟨g, cap, cur, rfl, hg, hc, hn', hm, hcs, htk⟩
  · omega
  · refine ⟨g, cap, rfl, hg, lt_of_heap hc, hn', hm, fun j y hy => ?_⟩
    rw [Lib.cell_of_heap hc, ← Array.getElem?_toList]
    rw [← htk, List.getElem?_take] at hy
    split at hy
    · exact hy
    · cases hy
theorem szN_num {n : Int} (h0 : 0 ≤ n) (h1 : n ≤ 9223372036854775807) : (numL n 8).drop 8 = szN n 1 ∧ (numL n 8).drop 7 = szN n 2 ∧ (numL n 8).drop 5 = szN n 4 := by
  have hw : IntKind.u64.wrap n = n := by rw [IntKind.wrap_u64]; omega
  refine ⟨?_, ?_, ?_⟩ <;> simp [numL, numB, szN, List.range_succ, hw]
set_option maxHeartbeats 2000000 in
set_option maxRecDepth 100000 in
theorem number_any (N P : Nat) (u : Value) (L : List Int) (n : Int) (k : Nat) (w : World) (h : Pk w N P u L) (h0 : 0 ≤ n) (h1 : n ≤ 9223372036854775807) (hk : k = 1 ∨ k = 2 ∨ k = 4) (hlen : L.length ≤ 100000000000000) :
    Calls Try.prog 77 #[.pointer (some ⟨P, 0, none⟩), .int .i64 n, .int .i64 k] w fun e w' => e = .returned (.tuple #[]) ∧ (∃ u', Pk w' N P u' (L ++ szN n k)) ∧ Below N w w' ∧ Kp P w w' := by
  have hd : (numL n 8).drop (9 - k) = szN n k := by
    have := szN_num h0 h1
    rcases hk with rfl | rfl | rfl
    · exact this.1
    · exact this.2.1
    · exact this.2.2
  have hN := h.lt
  have hle := h.le
  go_enter Try.func77, Try.ntmps77
  go_wp2_with fail
  refine Calls.mono (numberBytes_any n w) ?_
  rintro e w1 ⟨v, rfl, hown, hb1⟩
  obtain ⟨g, cap, rfl, hg0, hg1, hc, hcm, hcell⟩ := own_row hown (by omega)
  have hP1 := h.keep hb1
  have bel1 : Below N w w1 := hb1.mono (by omega)
  have hK1 : Kp P w w1 := Kp.of_below hb1
  clear hown h hb1
  have hadd : ∀ (q : Nat), q + k = 9 → ∀ (c : Nat) (wz : World), Below w1.heap.size w1 wz → Calls Try.prog 118 #[.pointer (some ⟨P, 0, none⟩), .slice (some ⟨g, q, none⟩) k c] wz fun e w' => e = .returned (.tuple #[]) ∧ (∃ u', Pk w' N P u' (L ++ szN n k)) ∧ Below N w w' ∧ Kp P w w' := by
    intro q hq c wz hz
    refine (ladd_any N P u L (szN n k) ⟨g, q, none⟩ k c wz (hP1.keep hz) (szN_len n k).symm (fun j y hy => ?_) (by rw [szN_len]; omega)).mono ?_
    · have e : ((⟨g, q, none⟩ : Addr).add j) = ⟨g, q + j, none⟩ := by unfold Addr.add; split <;> simp_all
      rw [e]
      refine (hz.cell (p := ⟨g, q + j, none⟩) hg1).trans (hcell (q + j) y ?_)
      rw [← hd, List.map_drop, List.getElem?_drop, show 9 - k = q by omega] at hy
      exact hy
    · rintro e w2 ⟨h1, h2, h3, h4⟩
      exact ⟨h1, h2, (bel1.trans (hz.mono (Nat.le_of_lt (Nat.lt_of_le_of_lt hle hP1.lt)))).trans h3, (hK1.trans (Kp.of_below hz)).trans h4⟩
  have HA : Hid (∀ (q : Nat), q + k = 9 → ∀ (c : Nat) (wz : World), Below w1.heap.size w1 wz → Calls Try.prog 118 #[.pointer (some ⟨P, 0, none⟩), .slice (some ⟨g, q, none⟩) k c] wz fun e w' => e = .returned (.tuple #[]) ∧ (∃ u', Pk w' N P u' (L ++ szN n k)) ∧ Below N w w' ∧ Kp P w w') := hadd
  clear hadd hcell hd
  unfold maxLen at hcm
  have hci : (9 : Int) ≤ (cap : Int) := by omega
  have hw8 : IntKind.i64.wrap 8 = 8 := by rw [IntKind.wrap_i64]; omega
  have hw7 : IntKind.i64.wrap 7 = 7 := by rw [IntKind.wrap_i64]; omega
  have hw5 : IntKind.i64.wrap 5 = 5 := by rw [IntKind.wrap_i64]; omega
  have hc8 : ¬ cap = 8 := by omega
  have hc7 : ¬ cap = 7 := by omega
  have hc5 : ¬ cap = 5 := by omega
  rcases hk with rfl | rfl | rfl
  · go_wp2_with fail
    go_region_held3 (fun _ => True) (trivial) (first | (go_at_call 118; refine Calls.mono (HA.out 8 rfl _ _ (by repeat (first | (with_reducible exact Below.refl _ _) | (with_reducible refine Below.drew ?_) | (with_reducible refine Below.alloc ?_ ?hh _; case hh => first | (simp; done) | (simp; omega) | omega) | (with_reducible refine Below.setCell ?_ ?hh _; case hh => first | (simp; done) | (simp; omega) | omega) | refine bstep (by assumption) (by first | (simp; done) | (simp; omega) | omega) ?_))) ?_; rintro e w2 ⟨rfl, hpk, hbl, hkp⟩) | fail)
    all_goals go_wp2
    all_goals go_end0
    all_goals exact ⟨rfl, hpk, hbl, hkp⟩
  · go_wp2_with fail
    go_region_held3 (fun _ => True) (trivial) (first | (go_at_call 118; refine Calls.mono (HA.out 7 rfl _ _ (by repeat (first | (with_reducible exact Below.refl _ _) | (with_reducible refine Below.drew ?_) | (with_reducible refine Below.alloc ?_ ?hh _; case hh => first | (simp; done) | (simp; omega) | omega) | (with_reducible refine Below.setCell ?_ ?hh _; case hh => first | (simp; done) | (simp; omega) | omega) | refine bstep (by assumption) (by first | (simp; done) | (simp; omega) | omega) ?_))) ?_; rintro e w2 ⟨rfl, hpk, hbl, hkp⟩) | fail)
    all_goals go_wp2
    all_goals go_end0
    all_goals exact ⟨rfl, hpk, hbl, hkp⟩
  · go_wp2_with fail
    go_region_held3 (fun _ => True) (trivial) (first | (go_at_call 118; refine Calls.mono (HA.out 5 rfl _ _ (by repeat (first | (with_reducible exact Below.refl _ _) | (with_reducible refine Below.drew ?_) | (with_reducible refine Below.alloc ?_ ?hh _; case hh => first | (simp; done) | (simp; omega) | omega) | (with_reducible refine Below.setCell ?_ ?hh _; case hh => first | (simp; done) | (simp; omega) | omega) | refine bstep (by assumption) (by first | (simp; done) | (simp; omega) | omega) ?_))) ?_; rintro e w2 ⟨rfl, hpk, hbl, hkp⟩) | fail)
    all_goals go_wp2
    all_goals go_end0
    all_goals exact ⟨rfl, hpk, hbl, hkp⟩
theorem strCells_tx (s : ByteArray) : (txN s).map (Value.int .u8) = Lib.strCells s := by simp [txN, nb, Lib.strCells, List.map_map]
set_option maxHeartbeats 2000000 in
set_option maxRecDepth 100000 in
theorem text_any (N P : Nat) (u : Value) (L : List Int) (s : ByteArray) (k : Nat) (w : World) (h : Pk w N P u L) (hs : s.size ≤ 1000000000) (hk : k = 1 ∨ k = 2 ∨ k = 4) (hlen : L.length ≤ 10000000000000) :
    Calls Try.prog 78 #[.pointer (some ⟨P, 0, none⟩), .string s, .int .i64 k] w fun e w' => e = .returned (.tuple #[]) ∧ (∃ u', Pk w' N P u' (L ++ tN s k)) ∧ Below N w w' ∧ Kp P w w' := by
  go_enter Try.func78, Try.ntmps78
  go_wp2_with fail
  refine Calls.mono (number_any N P u L s.size k w h (by omega) (by omega) hk (by omega)) ?_
  rintro e w1 ⟨rfl, ⟨u1, hp1⟩, hb1, hk1⟩
  have hcv := run_bytes_of_string (P := Try.prog) w1 9 105 5 s Try.underlying9 Try.underlying105 Try.underlying5
  generalize hg : grownCap w1 s.size 0 5 = gc at hcv
  have hNs := hp1.lt
  have hle := hp1.le
  go_wp2_with (first | (go_at_call 118; refine Calls.mono (ladd_any N P u1 (L ++ szN s.size k) (txN s) ⟨w1.heap.size, 0, none⟩ s.size gc _ (hp1.keep (by repeat (first | (with_reducible exact Below.refl _ _) | (with_reducible refine Below.drew ?_) | (with_reducible refine Below.alloc ?_ ?hh _; case hh => first | (simp; done) | (simp; omega) | omega) | (with_reducible refine Below.setCell ?_ ?hh _; case hh => first | (simp; done) | (simp; omega) | omega) | refine bstep (by assumption) (by first | (simp; done) | (simp; omega) | omega) ?_))) (txN_len s).symm (by rw [show (txN s).map (Value.int .u8) = Lib.strCells s from strCells_tx s]; exact bytes_cells _ _ _ _) ?hln) ?_) | fail)
  case hln => rw [List.length_append, szN_len, txN_len]; rcases hk with rfl | rfl | rfl <;> omega
  rintro e w2 ⟨rfl, ⟨u2, hp2⟩, hb2, hk2⟩
  have HB : Hid (Below N w w2) := by
    refine hb1.trans (Below.trans ?_ hb2)
    refine Below.mono (?_ : Below w1.heap.size w1 _) (by omega)
    repeat (first | (with_reducible exact Below.refl _ _) | (with_reducible refine Below.drew ?_) | (with_reducible refine Below.alloc ?_ ?hh _; case hh => first | (simp; done) | (simp; omega) | omega) | (with_reducible refine Below.setCell ?_ ?hh _; case hh => first | (simp; done) | (simp; omega) | omega) | refine bstep (by assumption) (by first | (simp; done) | (simp; omega) | omega) ?_)
  have HK : Hid (Kp P w w2) := by
    refine hk1.trans (Kp.trans (Kp.of_below ?_) hk2)
    repeat (first | (with_reducible exact Below.refl _ _) | (with_reducible refine Below.drew ?_) | (with_reducible refine Below.alloc ?_ ?hh _; case hh => first | (simp; done) | (simp; omega) | omega) | (with_reducible refine Below.setCell ?_ ?hh _; case hh => first | (simp; done) | (simp; omega) | omega) | refine bstep (by assumption) (by first | (simp; done) | (simp; omega) | omega) ?_)
  clear hb2 hk2 hcv
  go_wp2
  go_end0
  exact ⟨rfl, ⟨u2, hp2.eq (by rw [List.append_assoc]; rfl)⟩, HB.out, HK.out⟩
set_option maxHeartbeats 2000000 in
set_option maxRecDepth 100000 in
theorem packed_any (N P : Nat) (u : Value) (L : List Int) (w : World) (h : Pk w N P u L) (hl : L ≠ []) :
    Calls Try.prog 80 #[.pointer (some ⟨P, 0, none⟩)] w fun e w' => e = .returned (.string (strOfNums L)) ∧ w' = w := by
  have hn : 0 < L.length := List.length_pos_iff.2 hl
  have c0 : w.cell? ⟨P, 0, none⟩ = some u := by rw [Lib.cell_of_heap h.blk]; rfl
  have hcv := conv_own L h.own hn
  obtain ⟨g, cap, rfl, _⟩ := own_row h.own hn
  go_enter Try.func80, Try.ntmps80
  go_wp2
  go_returns
  exact ⟨rfl, rfl⟩
end Go.Proofs.Ytdkbhoichmcodaa
/- Own text. The contract of impl.relsOk. -/
namespace Go.Proofs.Ytdkbhoichmcodaa
open Go.RowKit
set_option linter.unusedVariables false
set_option maxHeartbeats 4000000 in
set_option maxRecDepth 100000 in
theorem relsOk_any (v : Value) (rs : List R3) (w : World) (hw : RsWf rs) (hr : RelsIs w v rs) :
    Calls Try.prog 72 #[v] w fun e w' => e = .returned (.bool (okRels rs)) ∧ Below w.heap.size w w' := by
  obtain ⟨a, c, b, o, rfl, hl, hc, ha⟩ := hr.pick
  unfold maxLen at hc
  clear hr
  by_cases h0 : (rs.length : Int) = 0
  · have hz : ((rs.length : Int) == 0) = true := by simpa using h0
    go_enter Try.func72, Try.ntmps72
    go_wp2
    go_returns
    exact ⟨ret_bool (by simp [okRels, inB]; omega), by go_grown⟩
  have hz : ((rs.length : Int) == 0) = false := by simpa using h0
  by_cases h2 : 20 < (rs.length : Int)
  · go_enter Try.func72, Try.ntmps72
    go_wp2
    go_returns
    exact ⟨ret_bool (by simp [okRels, inB]; omega), by go_grown⟩
  have HB : Hid (okRels rs = okTs none rs) := by
    have hf : inB rs.length 1 20 = true := by simp [inB]; omega
    simp [Hid, okRels, hf]
  clear h0
  go_enter Try.func72, Try.ntmps72
  go_wp2
  go_loopw [15] (fun i wr => ∃ (k : Nat) (q : Int), k ≤ rs.length ∧ q = k ∧ i = .int .i64 q ∧ Below w.heap.size w wr ∧ okTs none rs = okTs (prevT rs k) (rs.drop k)) (fun i _ => rs.length - (intOf i).toNat)
  case atStart => exact ⟨0, 0, Nat.zero_le _, rfl, rfl, by go_grown, by simp [prevT]⟩
  case round =>
    obtain ⟨k, q, hk, hq, rfl, hb, heq⟩ := hrel
    have HE : Hid (okTs none rs = okTs (prevT rs k) (rs.drop k)) := heq
    have hzb := hb.size
    clear heq
    by_cases hlt : k < rs.length
    · obtain ⟨rfl, hblt, hL⟩ := ha k hlt
      obtain ⟨x, u, hx, c0, c1, c2, hR, hbr⟩ := hL.at hblt hb hlt
      obtain ⟨ur, lr, cr, rfl⟩ := hR.shape
      obtain ⟨hxs, _, hxw⟩ := hw x (List.mem_of_getElem? hx)
      have HS : Hid (okTs (prevT rs k) (rs.drop k) = (nameB x.s && okBag x.W x.cs && okPrevT (prevT rs k) x && okTs (prevT rs (k + 1)) (rs.drop (k + 1)))) := okTs_step hx
      by_cases hnm : nameB x.s = true
      rotate_left
      · have hf : nameB x.s = false := by simpa using hnm
        clear ha hw hL hx
        subst hq
        go_wp2_with (first | (go_at_call 71; refine (implName_any x.s _ hxs).mono ?_; rintro e w1 ⟨rfl, rfl⟩) | (go_at_call 46; refine Calls.mono (implBagOk_any x.W _ x.cs _ hxw (hR.below (by repeat (first | exact Below.refl _ _ | refine Below.drew ?_ | refine Below.alloc ?_ (by first | (simp; done) | (simp; omega) | omega) _ | refine Below.setCell ?_ (by first | (simp; done) | (simp; omega) | omega) _ | refine bstep (by assumption) (by first | (simp; done) | (simp; omega) | omega) ?_)))) ?_; rintro e w2 ⟨rfl, hb2⟩; have hz2 := hb2.size; (try simp at hz2); have n2 : w2.cell? ⟨wr.heap.size, 0, none⟩ = some (.string x.s) := cell_later hb2 (by go_simp)) | fail)
        go_returns
        refine ⟨ret_bool ?_, by repeat (first | exact Below.refl _ _ | refine Below.drew ?_ | refine Below.alloc ?_ (by first | (simp; done) | (simp; omega) | omega) _ | refine Below.setCell ?_ (by first | (simp; done) | (simp; omega) | omega) _ | refine bstep (by assumption) (by first | (simp; done) | (simp; omega) | omega) ?_)⟩
        rw [HB.out, HE.out, HS.out, hf]
        simp
      by_cases hpl : okBag x.W x.cs = true
      rotate_left
      · have hf : okBag x.W x.cs = false := by simpa using hpl
        clear ha hw hL hx
        subst hq
        go_wp2_with (first | (go_at_call 71; refine (implName_any x.s _ hxs).mono ?_; rintro e w1 ⟨rfl, rfl⟩) | (go_at_call 46; refine Calls.mono (implBagOk_any x.W _ x.cs _ hxw (hR.below (by repeat (first | exact Below.refl _ _ | refine Below.drew ?_ | refine Below.alloc ?_ (by first | (simp; done) | (simp; omega) | omega) _ | refine Below.setCell ?_ (by first | (simp; done) | (simp; omega) | omega) _ | refine bstep (by assumption) (by first | (simp; done) | (simp; omega) | omega) ?_)))) ?_; rintro e w2 ⟨rfl, hb2⟩; have hz2 := hb2.size; (try simp at hz2); have n2 : w2.cell? ⟨wr.heap.size, 0, none⟩ = some (.string x.s) := cell_later hb2 (by go_simp)) | fail)
        go_returns
        refine ⟨ret_bool ?_, by repeat (first | exact Below.refl _ _ | refine Below.drew ?_ | refine Below.alloc ?_ (by first | (simp; done) | (simp; omega) | omega) _ | refine Below.setCell ?_ (by first | (simp; done) | (simp; omega) | omega) _ | refine bstep (by assumption) (by first | (simp; done) | (simp; omega) | omega) ?_)⟩
        rw [HB.out, HE.out, HS.out, hf]
        simp
      rcases Nat.eq_zero_or_pos k with hk0 | hk0
      · subst hk0
        obtain rfl : q = 0 := by simpa using hq
        rw [Nat.zero_mul, Nat.add_zero] at c0 c1 c2
        clear ha hw hL hx hq
        go_wp2_with (first | (go_at_call 71; refine (implName_any x.s _ hxs).mono ?_; rintro e w1 ⟨rfl, rfl⟩) | (go_at_call 46; refine Calls.mono (implBagOk_any x.W _ x.cs _ hxw (hR.below (by repeat (first | exact Below.refl _ _ | refine Below.drew ?_ | refine Below.alloc ?_ (by first | (simp; done) | (simp; omega) | omega) _ | refine Below.setCell ?_ (by first | (simp; done) | (simp; omega) | omega) _ | refine bstep (by assumption) (by first | (simp; done) | (simp; omega) | omega) ?_)))) ?_; rintro e w2 ⟨rfl, hb2⟩; have hz2 := hb2.size; (try simp at hz2); have n2 : w2.cell? ⟨wr.heap.size, 0, none⟩ = some (.string x.s) := cell_later hb2 (by go_simp)) | fail)
        go_region
        go_wp2
        go_roundw
        case rel =>
          refine ⟨1, 1, hlt, rfl, by simp, by repeat (first | exact Below.refl _ _ | refine Below.drew ?_ | refine Below.alloc ?_ (by first | (simp; done) | (simp; omega) | omega) _ | refine Below.setCell ?_ (by first | (simp; done) | (simp; omega) | omega) _ | refine bstep (by assumption) (by first | (simp; done) | (simp; omega) | omega) ?_), ?_⟩
          rw [HE.out, HS.out, hnm, hpl, prevT_zero]
          simp [okPrevT]
        case measure => simp [intOf]; omega
      · obtain ⟨j, rfl⟩ : ∃ j, k = j + 1 := ⟨k - 1, by omega⟩
        obtain rfl : q = (j : Int) + 1 := by omega
        obtain ⟨y, t, hy, d0, d1, d2', hT, _⟩ := hL.at hblt hb (show j < rs.length by omega)
        have HP : Hid (prevT rs (j + 1) = some y) := prevT_succ hy
        clear ha hw hL hx hy hq d1 d2' hT
        go_wp2_with (first | (go_at_call 71; refine (implName_any x.s _ hxs).mono ?_; rintro e w1 ⟨rfl, rfl⟩) | (go_at_call 46; refine Calls.mono (implBagOk_any x.W _ x.cs _ hxw (hR.below (by repeat (first | exact Below.refl _ _ | refine Below.drew ?_ | refine Below.alloc ?_ (by first | (simp; done) | (simp; omega) | omega) _ | refine Below.setCell ?_ (by first | (simp; done) | (simp; omega) | omega) _ | refine bstep (by assumption) (by first | (simp; done) | (simp; omega) | omega) ?_)))) ?_; rintro e w2 ⟨rfl, hb2⟩; have hz2 := hb2.size; (try simp at hz2); have n2 : w2.cell? ⟨wr.heap.size, 0, none⟩ = some (.string x.s) := cell_later hb2 (by go_simp); have d2 : w2.cell? ⟨b, o + j * 3, none⟩ = some (.string y.s) := cell_later hb2 (by go_simp)) | fail)
        have hw1 : IntKind.i64.wrap (j : Int) = j := by rw [IntKind.wrap_i64]; omega
        have hw2 : IntKind.i64.wrap ((j : Int) + 1 - 1) = j := by rw [IntKind.wrap_i64]; omega
        have hi0 : (0 : Int) ≤ j := by omega
        have hi1 : (j : Int) < rs.length := by omega
        have hi2 : (0 : Int) < (j : Int) + 1 := by omega
        have HQ : Hid (okPrevT (prevT rs (j + 1)) x = Op.bytesLess y.s.toList x.s.toList) := by rw [HP.out]; rfl
        go_region_held3 (fun w' => w'.cell? ⟨wr.heap.size, 0, none⟩ = some (.string x.s) ∧ w'.cell? ⟨b, o + j * 3, none⟩ = some (.string y.s)) (refine ⟨?_, ?_⟩ <;> first | (go_simp; done) | (exact cell_later (by assumption) (by go_simp))) (fail)
        go_wp2
        · have hcf : Op.bytesLess y.s.toList x.s.toList = false := by
            have h9 : (!Op.bytesLess y.s.toList x.s.toList) = true := by assumption
            simpa using h9
          go_returns
          refine ⟨ret_bool ?_, by repeat (first | exact Below.refl _ _ | refine Below.drew ?_ | refine Below.alloc ?_ (by first | (simp; done) | (simp; omega) | omega) _ | refine Below.setCell ?_ (by first | (simp; done) | (simp; omega) | omega) _ | refine bstep (by assumption) (by first | (simp; done) | (simp; omega) | omega) ?_)⟩
          rw [HB.out, HE.out, HS.out, HQ.out, hcf]
          simp
        · have hcmp : Op.bytesLess y.s.toList x.s.toList = true := by
            have h9 : (!Op.bytesLess y.s.toList x.s.toList) = false := by assumption
            simpa using h9
          refine ⟨⟨j + 1 + 1, (j : Int) + 1 + 1, hlt, by omega, rfl, by repeat (first | exact Below.refl _ _ | refine Below.drew ?_ | refine Below.alloc ?_ (by first | (simp; done) | (simp; omega) | omega) _ | refine Below.setCell ?_ (by first | (simp; done) | (simp; omega) | omega) _ | refine bstep (by assumption) (by first | (simp; done) | (simp; omega) | omega) ?_), ?_⟩, by simp [intOf]; omega⟩
          rw [HE.out, HS.out, HQ.out, hnm, hpl, hcmp]
          simp
    · clear ha hw
      go_wp2
      go_returns
      refine ⟨ret_bool ?_, hb⟩
      rw [HB.out, HE.out, List.drop_eq_nil_of_le (by omega)]
      rfl
end Go.Proofs.Ytdkbhoichmcodaa
/- Own text. slices.Contains of texts. -/
namespace Go.Proofs.Ytdkbhoichmcodaa
open Go.RowKit Go.Deep Go.ChangeShapes Go.WideShapes
set_option linter.unusedVariables false
theorem containsS_has (L : List ByteArray) (x : ByteArray) : Lib.containsS L x = hasS L x := by
  rw [Bool.eq_iff_iff, Lib.containsS_iff]
  unfold hasS
  rw [List.any_eq_true]
  constructor
  · exact fun h => ⟨x, h, by simp⟩
  · rintro ⟨y, hy, e⟩
    have e' : y = x := bytes_same (by simpa using e)
    rw [← e']
    exact hy
/-- slices.Contains of texts. -/
theorem contains_any (v : Value) (L : List ByteArray) (g : List Nat) (x : ByteArray) (w : World) (h : StrsF w v L g) :
    Calls Try.prog 142 #[v, .string x] w fun e w' => e = .returned (.bool (hasS L x)) ∧ w' = w := by
  obtain ⟨a, c, rfl, hl, hc, h0, h1⟩ := h
  unfold maxLen at hc
  by_cases hne : L = []
  · subst hne
    exact Try.slices_Contains_string_empty a c x w
  · obtain ⟨b, o, rfl, hlt, rfl, hcell⟩ := h1 hne
    have := Try.slices_Contains_string b o L.length c L x w (Nat.le_refl _) (by omega) fun j hj => by
      rw [hcell j L[j] (by simp)]
      simp [List.getD_eq_getElem?_getD, hj]
    rw [List.take_length, containsS_has] at this
    exact this
end Go.Proofs.Ytdkbhoichmcodaa
/- Own text. The contract of spec.l03Has at any slice of texts; a slice of texts that is cut. -/
namespace Go.Proofs.Ytdkbhoichmcodaa
open Go.RowKit Go.Deep
set_option linter.unusedVariables false
theorem StrsF.cut {w : World} {a : Option Addr} {l c : Nat} {ns : List ByteArray} {g : List Nat} (h : StrsF w (.slice a l c) ns g) {k : Nat} (hk : k ≤ ns.length) : ∃ g', StrsF w (.slice a k c) (ns.take k) g' := by
  obtain ⟨a', c', e, hl, hc, h0, h1⟩ := h
  obtain ⟨rfl, rfl, rfl⟩ : a = a' ∧ l = ns.length ∧ c = c' := by injection e with e1 e2 e3; exact ⟨e1, e2, e3⟩
  have hkl : (ns.take k).length = k := by rw [List.length_take]; omega
  by_cases hk0 : k = 0
  · subst hk0
    exact ⟨[], a, c, by simp, by simp, hc, fun _ => rfl, fun h => absurd (by simp) h⟩
  · obtain ⟨b, o, ea, hlt, eg, hC⟩ := h1 (by rintro rfl; simp at hk; omega)
    refine ⟨[b], a, c, by rw [hkl], by rw [hkl]; omega, hc, fun h => ?_, fun _ => ⟨b, o, ea, hlt, rfl, fun i n hn => hC i n ?_⟩⟩
    · exfalso; have := congrArg List.length h; rw [hkl] at this; simp at this; omega
    · rw [List.getElem?_take] at hn
      split at hn
      · exact hn
      · cases hn
set_option maxHeartbeats 2000000 in
set_option maxRecDepth 100000 in
theorem l03HasF_any (v : Value) (L : List ByteArray) (g : List Nat) (x : ByteArray) (w : World) (h : StrsF w v L g) :
    Calls Try.prog 111 #[v, .string x] w fun e w' => e = .returned (.bool (hasS L x)) ∧ w' = w := by
  obtain ⟨a, c, b, o, rfl, hl, hc, _, ha⟩ := h.pick
  unfold maxLen at hc
  clear h
  go_enter Try.func111, Try.ntmps111
  go_wp2
  go_loopw [5] (fun i wr => ∃ k : Nat, k ≤ L.length ∧ i = .int .i64 k ∧ wr = w ∧ hasS L x = hasS (L.drop k) x) (fun i _ => L.length - (intOf i).toNat)
  case atStart => exact ⟨0, Nat.zero_le _, rfl, rfl, by simp⟩
  case round =>
    obtain ⟨k, hk, rfl, hwr, heq⟩ := hrel
    replace hwr := hwr.symm
    subst hwr
    have HE : Hid (hasS L x = hasS (L.drop k) x) := heq
    clear heq
    by_cases hkl : k < L.length
    · obtain ⟨m, hm⟩ : ∃ m, L[k]? = some m := ⟨L[k], by simp [hkl]⟩
      obtain ⟨rfl, hblt, _, hcell⟩ := ha k hkl
      have hc0 := hcell k m hm
      have HS : Hid (hasS (L.drop k) x = (m.toList == x.toList || hasS (L.drop (k + 1)) x)) := hasS_step hm
      clear hcell hm ha
      by_cases hmx : m.toList = x.toList
      · have hme : (m.toList == x.toList) = true := by simpa using hmx
        have HB : Hid ((m.toList == x.toList) = true) := hme
        go_wp2
        go_returns
        exact ⟨ret_bool (by rw [HE.out, HS.out, HB.out, Bool.true_or]), rfl⟩
      · have hme : (m.toList == x.toList) = false := by simpa using hmx
        have HB : Hid ((m.toList == x.toList) = false) := hme
        go_wp2
        exact ⟨⟨k + 1, hkl, by simp, by first | rfl | trivial, by rw [HE.out, HS.out, HB.out, Bool.false_or]⟩, by simp [intOf]; omega⟩
    · obtain rfl : k = L.length := by omega
      clear ha
      go_wp2
      go_returns
      exact ⟨ret_bool (by rw [HE.out, List.drop_length]; rfl), rfl⟩
end Go.Proofs.Ytdkbhoichmcodaa
/- Own text. The contracts of impl.columnsOk and impl.SchemasOk. -/
namespace Go.Proofs.Ytdkbhoichmcodaa
open Go.RowKit Go.Deep
set_option linter.unusedVariables false
set_option maxHeartbeats 2000000 in
set_option maxRecDepth 100000 in
theorem columnsOk_any (v : Value) (cs : List ByteArray) (g : List Nat) (w : World) (hw : SsWf cs) (hr : StrsF w v cs g) :
    Calls Try.prog 112 #[v] w fun e w' => e = .returned (.bool (okCols cs)) ∧ w' = w := by
  obtain ⟨a, c, b, o, rfl, hl, hc, _, ha⟩ := hr.pick
  unfold maxLen at hc
  by_cases h0 : (cs.length : Int) = 0
  · have hf : inB cs.length 1 12 = false := by simp [inB]; omega
    go_enter Try.func112, Try.ntmps112
    go_wp2
    go_returns
    exact ⟨ret_bool (by simp [okCols, hf]), rfl⟩
  have hz : ((cs.length : Int) == 0) = false := by simpa using h0
  have hne : ¬ cs = [] := by rintro rfl; simp at h0
  by_cases h1 : (12 : Int) < cs.length
  · have hf : inB cs.length 1 12 = false := by simp [inB]; omega
    go_enter Try.func112, Try.ntmps112
    go_wp2
    go_returns
    exact ⟨ret_bool (by simp [okCols, hf]), rfl⟩
  have HB : Hid (okCols cs = colsB [] cs) := by
    have hf : inB cs.length 1 12 = true := by simp [inB]; omega
    simp [Hid, okCols, hf]
  go_enter Try.func112, Try.ntmps112
  go_wp2
  go_loopw [15] (fun i wr => ∃ k : Nat, k ≤ cs.length ∧ i = .int .i64 k ∧ wr = w ∧ colsB [] cs = colsB (cs.take k) (cs.drop k)) (fun i _ => cs.length - (intOf i).toNat)
  case atStart => exact ⟨0, Nat.zero_le _, rfl, rfl, by simp⟩
  case round =>
    obtain ⟨k, hk, rfl, hwr, heq⟩ := hrel
    replace hwr := hwr.symm
    subst hwr
    have HE : Hid (colsB [] cs = colsB (cs.take k) (cs.drop k)) := heq
    clear heq
    by_cases hkl : k < cs.length
    · obtain ⟨m, hm⟩ : ∃ m, cs[k]? = some m := ⟨cs[k], by simp [hkl]⟩
      obtain ⟨rfl, hblt, _, hcell⟩ := ha k hkl
      have hc0 := hcell k m hm
      have hms := hw m (List.mem_of_getElem? hm)
      have HS : Hid (colsB (cs.take k) (cs.drop k) = (nameB m && !hasS (cs.take k) m && colsB (cs.take (k + 1)) (cs.drop (k + 1)))) := colsB_step hm
      obtain ⟨g', hcut⟩ := hr.cut (Nat.le_of_lt hkl)
      clear hcell hm ha hr hw
      by_cases hnm : nameB m = true
      rotate_left
      · have hf : nameB m = false := by simpa using hnm
        have HF : Hid (nameB m = false) := hf
        go_wp2_with (go_at_call 71; refine (implName_any m _ hms).mono ?_; rintro e w1 ⟨rfl, rfl⟩)
        go_returns
        exact ⟨ret_bool (by rw [HB.out, HE.out, HS.out, HF.out]; rfl), rfl⟩
      · have HN : Hid (nameB m = true) := hnm
        have hcon := contains_any _ _ _ m _ hcut
        obtain ⟨hs, HH⟩ : ∃ hs, Hid (hasS (cs.take k) m = hs) := ⟨_, rfl⟩
        rw [HH.out] at hcon
        cases hs with
        | true =>
          go_wp2_with (first | (go_at_call 71; refine (implName_any m _ hms).mono ?_; rintro e w1 ⟨rfl, rfl⟩) | (go_at_call 142; refine Calls.mono hcon ?_; rintro q w2 ⟨rfl, rfl⟩))
          go_returns
          exact ⟨ret_bool (by rw [HB.out, HE.out, HS.out, HN.out, HH.out]; rfl), rfl⟩
        | false =>
          go_wp2_with (first | (go_at_call 71; refine (implName_any m _ hms).mono ?_; rintro e w1 ⟨rfl, rfl⟩) | (go_at_call 142; refine Calls.mono hcon ?_; rintro q w2 ⟨rfl, rfl⟩))
          exact ⟨⟨k + 1, hkl, by simp, by first | rfl | trivial, by rw [HE.out, HS.out, HN.out, HH.out]; rfl⟩, by simp [intOf]; omega⟩
    · obtain rfl : k = cs.length := by omega
      clear ha hr
      go_wp2
      go_returns
      exact ⟨ret_bool (by rw [HB.out, HE.out, List.drop_length]; rfl), rfl⟩
set_option maxHeartbeats 4000000 in
set_option maxRecDepth 100000 in
theorem implSchemasOk_any (v : Value) (rs : List S2) (w : World) (hw : HsWf rs) (hr : SchsIs w v rs) :
    Calls Try.prog 70 #[v] w fun e w' => e = .returned (.bool (okSch rs)) ∧ Below w.heap.size w w' := by
  obtain ⟨a, c, b, o, rfl, hl, hc, ha⟩ := hr.pick
  unfold maxLen at hc
  clear hr
  by_cases h2 : 20 < (rs.length : Int)
  · go_enter Try.func70, Try.ntmps70
    go_wp2
    go_returns
    exact ⟨ret_bool (by simp [okSch, show ¬ rs.length ≤ 20 from by omega]), by go_grown⟩
  have HB : Hid (okSch rs = okHs none rs) := by simp [Hid, okSch, show rs.length ≤ 20 from by omega]
  go_enter Try.func70, Try.ntmps70
  go_wp2
  go_loopw [10] (fun i wr => ∃ (k : Nat) (q : Int), k ≤ rs.length ∧ q = k ∧ i = .int .i64 q ∧ Below w.heap.size w wr ∧ okHs none rs = okHs (prevH rs k) (rs.drop k)) (fun i _ => rs.length - (intOf i).toNat)
  case atStart => exact ⟨0, 0, Nat.zero_le _, rfl, rfl, by go_grown, by simp [prevH]⟩
  case round =>
    obtain ⟨k, q, hk, hq, rfl, hb, heq⟩ := hrel
    have HE : Hid (okHs none rs = okHs (prevH rs k) (rs.drop k)) := heq
    have hzb := hb.size
    clear heq
    by_cases hlt : k < rs.length
    · obtain ⟨rfl, hblt, hL⟩ := ha k hlt
      obtain ⟨x, u, g, hx, c0, c1, hR, hbr⟩ := hL.at hblt hb hlt
      obtain ⟨ur, cr, rfl, _, _⟩ := hR.shape
      obtain ⟨hxs, hxw⟩ := hw x (List.mem_of_getElem? hx)
      have HS : Hid (okHs (prevH rs k) (rs.drop k) = (nameB x.s && okCols x.cs && okPrevH (prevH rs k) x && okHs (prevH rs (k + 1)) (rs.drop (k + 1)))) := okHs_step hx
      by_cases hnm : nameB x.s = true
      rotate_left
      · have hf : nameB x.s = false := by simpa using hnm
        clear ha hw hL hx
        subst hq
        go_wp2_with (first | (go_at_call 71; refine (implName_any x.s _ hxs).mono ?_; rintro e w1 ⟨rfl, rfl⟩) | (go_at_call 112; refine Calls.mono (columnsOk_any _ x.cs g _ hxw (hR.below (by repeat (first | exact Below.refl _ _ | refine Below.drew ?_ | refine Below.alloc ?_ (by first | (simp; done) | (simp; omega) | omega) _ | refine Below.setCell ?_ (by first | (simp; done) | (simp; omega) | omega) _ | refine bstep (by assumption) (by first | (simp; done) | (simp; omega) | omega) ?_)))) ?_; rintro e w2 ⟨rfl, rfl⟩) | fail)
        go_returns
        refine ⟨ret_bool ?_, by repeat (first | exact Below.refl _ _ | refine Below.drew ?_ | refine Below.alloc ?_ (by first | (simp; done) | (simp; omega) | omega) _ | refine Below.setCell ?_ (by first | (simp; done) | (simp; omega) | omega) _ | refine bstep (by assumption) (by first | (simp; done) | (simp; omega) | omega) ?_)⟩
        rw [HB.out, HE.out, HS.out, hf]
        simp
      by_cases hpl : okCols x.cs = true
      rotate_left
      · have hf : okCols x.cs = false := by simpa using hpl
        clear ha hw hL hx
        subst hq
        go_wp2_with (first | (go_at_call 71; refine (implName_any x.s _ hxs).mono ?_; rintro e w1 ⟨rfl, rfl⟩) | (go_at_call 112; refine Calls.mono (columnsOk_any _ x.cs g _ hxw (hR.below (by repeat (first | exact Below.refl _ _ | refine Below.drew ?_ | refine Below.alloc ?_ (by first | (simp; done) | (simp; omega) | omega) _ | refine Below.setCell ?_ (by first | (simp; done) | (simp; omega) | omega) _ | refine bstep (by assumption) (by first | (simp; done) | (simp; omega) | omega) ?_)))) ?_; rintro e w2 ⟨rfl, rfl⟩) | fail)
        go_returns
        refine ⟨ret_bool ?_, by repeat (first | exact Below.refl _ _ | refine Below.drew ?_ | refine Below.alloc ?_ (by first | (simp; done) | (simp; omega) | omega) _ | refine Below.setCell ?_ (by first | (simp; done) | (simp; omega) | omega) _ | refine bstep (by assumption) (by first | (simp; done) | (simp; omega) | omega) ?_)⟩
        rw [HB.out, HE.out, HS.out, hf]
        simp
      rcases Nat.eq_zero_or_pos k with hk0 | hk0
      · subst hk0
        obtain rfl : q = 0 := by simpa using hq
        rw [Nat.zero_mul, Nat.add_zero] at c0 c1
        clear ha hw hL hx hq
        go_wp2_with (first | (go_at_call 71; refine (implName_any x.s _ hxs).mono ?_; rintro e w1 ⟨rfl, rfl⟩) | (go_at_call 112; refine Calls.mono (columnsOk_any _ x.cs g _ hxw (hR.below (by repeat (first | exact Below.refl _ _ | refine Below.drew ?_ | refine Below.alloc ?_ (by first | (simp; done) | (simp; omega) | omega) _ | refine Below.setCell ?_ (by first | (simp; done) | (simp; omega) | omega) _ | refine bstep (by assumption) (by first | (simp; done) | (simp; omega) | omega) ?_)))) ?_; rintro e w2 ⟨rfl, rfl⟩) | fail)
        go_region
        go_wp2
        go_roundw
        case rel =>
          refine ⟨1, 1, hlt, rfl, by simp, by repeat (first | exact Below.refl _ _ | refine Below.drew ?_ | refine Below.alloc ?_ (by first | (simp; done) | (simp; omega) | omega) _ | refine Below.setCell ?_ (by first | (simp; done) | (simp; omega) | omega) _ | refine bstep (by assumption) (by first | (simp; done) | (simp; omega) | omega) ?_), ?_⟩
          rw [HE.out, HS.out, hnm, hpl, prevH_zero]
          simp [okPrevH]
        case measure => simp [intOf]; omega
      · obtain ⟨j, rfl⟩ : ∃ j, k = j + 1 := ⟨k - 1, by omega⟩
        obtain rfl : q = (j : Int) + 1 := by omega
        obtain ⟨y, t, gy, hy, d0, d1, hT, _⟩ := hL.at hblt hb (show j < rs.length by omega)
        have HP : Hid (prevH rs (j + 1) = some y) := prevH_succ hy
        clear ha hw hL hx hy hq d1 hT
        go_wp2_with (first | (go_at_call 71; refine (implName_any x.s _ hxs).mono ?_; rintro e w1 ⟨rfl, rfl⟩) | (go_at_call 112; refine Calls.mono (columnsOk_any _ x.cs g _ hxw (hR.below (by repeat (first | exact Below.refl _ _ | refine Below.drew ?_ | refine Below.alloc ?_ (by first | (simp; done) | (simp; omega) | omega) _ | refine Below.setCell ?_ (by first | (simp; done) | (simp; omega) | omega) _ | refine bstep (by assumption) (by first | (simp; done) | (simp; omega) | omega) ?_)))) ?_; rintro e w2 ⟨rfl, rfl⟩) | fail)
        have hw1 : IntKind.i64.wrap (j : Int) = j := by rw [IntKind.wrap_i64]; omega
        have hw2 : IntKind.i64.wrap ((j : Int) + 1 - 1) = j := by rw [IntKind.wrap_i64]; omega
        have hi0 : (0 : Int) ≤ j := by omega
        have hi1 : (j : Int) < rs.length := by omega
        have hi2 : (0 : Int) < (j : Int) + 1 := by omega
        have HQ : Hid (okPrevH (prevH rs (j + 1)) x = Op.bytesLess y.s.toList x.s.toList) := by rw [HP.out]; rfl
        go_region_held3 (fun w' => w'.cell? ⟨wr.heap.size, 0, none⟩ = some (.string x.s) ∧ w'.cell? ⟨b, o + j * 2, none⟩ = some (.string y.s)) (refine ⟨?_, ?_⟩ <;> first | (go_simp; done) | (exact cell_later (by assumption) (by go_simp))) (fail)
        go_wp2
        · have hcf : Op.bytesLess y.s.toList x.s.toList = false := by
            have h9 : (!Op.bytesLess y.s.toList x.s.toList) = true := by assumption
            simpa using h9
          go_returns
          refine ⟨ret_bool ?_, by repeat (first | exact Below.refl _ _ | refine Below.drew ?_ | refine Below.alloc ?_ (by first | (simp; done) | (simp; omega) | omega) _ | refine Below.setCell ?_ (by first | (simp; done) | (simp; omega) | omega) _ | refine bstep (by assumption) (by first | (simp; done) | (simp; omega) | omega) ?_)⟩
          rw [HB.out, HE.out, HS.out, HQ.out, hcf]
          simp
        · have hcmp : Op.bytesLess y.s.toList x.s.toList = true := by
            have h9 : (!Op.bytesLess y.s.toList x.s.toList) = false := by assumption
            simpa using h9
          refine ⟨⟨j + 1 + 1, (j : Int) + 1 + 1, hlt, by omega, rfl, by repeat (first | exact Below.refl _ _ | refine Below.drew ?_ | refine Below.alloc ?_ (by first | (simp; done) | (simp; omega) | omega) _ | refine Below.setCell ?_ (by first | (simp; done) | (simp; omega) | omega) _ | refine bstep (by assumption) (by first | (simp; done) | (simp; omega) | omega) ?_), ?_⟩, by simp [intOf]; omega⟩
          rw [HE.out, HS.out, HQ.out, hnm, hpl, hcmp]
          simp
    · clear ha hw
      go_wp2
      go_returns
      refine ⟨ret_bool ?_, hb⟩
      rw [HB.out, HE.out, List.drop_eq_nil_of_le (by omega)]
      rfl
end Go.Proofs.Ytdkbhoichmcodaa
/- Own text. The contract of impl.StepOk. -/
namespace Go.Proofs.Ytdkbhoichmcodaa
open Go.RowKit
set_option linter.unusedVariables false
theorem isEmpty_len {α : Type} (l : List α) : ((l.length : Int) == 0) = l.isEmpty := by cases l <;> simp; omega
/-- one schema in a list of its own. -/
theorem schs_one {w : World} {s : ByteArray} {uc : Value} {cs : List ByteArray} {g : List Nat} (h : StrsF w uc cs g) {a : Option Addr} {B : Nat} (ha : a = some ⟨B, 0, none⟩) (hlt : B < w.heap.size) (h0 : w.cell? ⟨B, 0, none⟩ = some (.string s)) (h1 : w.cell? ⟨B, 1, none⟩ = some uc) : SchsIs w (.slice a 1 1) [⟨s, cs⟩] := by
  refine ⟨a, 1, rfl, Nat.le_refl _, by unfold maxLen; omega, fun _ => ⟨B, 0, ha, hlt, fun i x hx => ?_⟩⟩
  match i, hx with
  | 0, hx =>
    obtain rfl : (⟨s, cs⟩ : S2) = x := by simpa using hx
    exact ⟨uc, g, h0, h1, h⟩
  | i + 1, hx => simp at hx
set_option maxHeartbeats 4000000 in
set_option maxRecDepth 100000 in
theorem implStepOk_any (x : T5) (uc ur : Value) (w : World) (hw : x.wf) (hr : StpIs w uc ur x) :
    Calls Try.prog 27 #[(.agg #[.int .i64 x.k, .string x.s, uc, .string x.q, ur])] w fun e w' => e = .returned (.bool (okStep x)) ∧ Below w.heap.size w w' := by
  obtain ⟨_, ws, wc, wq, wr⟩ := hw
  obtain ⟨⟨ac, cc, rfl, _, _⟩, ar, cr, rfl, _, _⟩ := hr.shape
  obtain ⟨⟨g, hS⟩, hR⟩ := hr
  have e2 := isEmpty_len x.cs
  have e4 := isEmpty_len x.rs
  obtain ⟨b1, e1⟩ : ∃ b, x.s.toList.isEmpty = b := ⟨_, rfl⟩
  obtain ⟨b2, HB2⟩ : ∃ b, Hid (x.cs.isEmpty = b) := ⟨_, rfl⟩
  obtain ⟨b3, e3⟩ : ∃ b, x.q.toList.isEmpty = b := ⟨_, rfl⟩
  obtain ⟨b4, HB4⟩ : ∃ b, Hid (x.rs.isEmpty = b) := ⟨_, rfl⟩
  rw [HB2.out] at e2
  rw [HB4.out] at e4
  have HK : Hid (okStep x = if x.k = 0 then okSch [⟨x.s, x.cs⟩] && b3 && b4
    else if x.k = 1 then nameB x.s && b2 && decide (x.q.size ≤ 1000) && b4
    else if x.k = 2 then nameB x.s && b2 && b3 && b4
    else if x.k = 3 then b1 && b2 && b3 && okRels x.rs
    else false) := by simp only [Hid, okStep, e1, HB2.out, e3, HB4.out]
  by_cases k0 : x.k = 0
  · rw [if_pos k0] at HK
    have k0' : (x.k == 0) = true := by simpa using k0
    obtain ⟨bo, HO⟩ : ∃ b, Hid (okSch [⟨x.s, x.cs⟩] = b) := ⟨_, rfl⟩
    clear k0
    go_enter Try.func27, Try.ntmps27
    go_wp2_with fail
    go_quiet (fail)
    go_wp2_with fail
    refine Calls.mono (implSchemasOk_any _ [⟨x.s, x.cs⟩] _ ?hw (schs_one (s := x.s) (hS.below ?hb) rfl ?hl ?h0 ?h1)) ?_
    case hw => intro y hy; obtain rfl := List.mem_singleton.1 hy; exact ⟨ws, wc⟩
    case hb => repeat (first | (with_reducible exact Below.refl _ _) | (with_reducible refine Below.drew ?_) | (with_reducible refine belowN ?_ _) | (with_reducible refine Below.alloc ?_ ?hh _; case hh => first | (simp; done) | (simp; omega) | omega) | (with_reducible refine Below.setCell ?_ ?hh _; case hh => first | (simp; done) | (simp; omega) | omega) | refine bstep (by assumption) (by first | (simp; done) | (simp; omega) | omega) ?_)
    case hl => simp
    case h0 => go_simp
    case h1 => go_simp
    rw [HO.out]
    rintro e w1 ⟨rfl, hb1⟩
    have bel1 : Below w.heap.size w w1 := by
      refine Below.trans ?_ (hb1.mono ?_)
      · repeat (first | (with_reducible exact Below.refl _ _) | (with_reducible refine Below.drew ?_) | (with_reducible refine belowN ?_ _) | (with_reducible refine Below.alloc ?_ ?hh _; case hh => first | (simp; done) | (simp; omega) | omega) | (with_reducible refine Below.setCell ?_ ?hh _; case hh => first | (simp; done) | (simp; omega) | omega) | refine bstep (by assumption) (by first | (simp; done) | (simp; omega) | omega) ?_)
      · (simp; try omega)
    cases bo <;> cases b3 <;> cases b4 <;> (
      go_wp2_with fail
      go_returns
      exact ⟨ret_bool (by rw [HK.out, HO.out]; rfl), bel1⟩)
  have k0' : (x.k == 0) = false := by simpa using k0
  rw [if_neg k0] at HK
  clear k0
  by_cases k1 : x.k = 1
  · rw [if_pos k1] at HK
    have k1' : (x.k == 1) = true := by simpa using k1
    obtain ⟨bo, HO⟩ : ∃ b, Hid (nameB x.s = b) := ⟨_, rfl⟩
    have hq := wq
    unfold maxLen at hq
    by_cases hk : (x.q.size : Int) ≤ 1000
    · have HQ : Hid (decide (x.q.size ≤ 1000) = true) := by simp [Hid]; omega
      clear k1
      go_enter Try.func27, Try.ntmps27
      go_wp2_with fail
      go_quiet (fail)
      go_wp2_with fail
      refine Calls.mono (implName_any x.s _ ws) ?_
      rw [HO.out]
      rintro e w1 ⟨rfl, rfl⟩
      cases bo <;> cases b2 <;> cases b4 <;> (
        go_wp2_with fail
        go_returns
        exact ⟨ret_bool (by rw [HK.out, HO.out, HQ.out]; rfl), by repeat (first | (with_reducible exact Below.refl _ _) | (with_reducible refine Below.drew ?_) | (with_reducible refine belowN ?_ _) | (with_reducible refine Below.alloc ?_ ?hh _; case hh => first | (simp; done) | (simp; omega) | omega) | (with_reducible refine Below.setCell ?_ ?hh _; case hh => first | (simp; done) | (simp; omega) | omega) | refine bstep (by assumption) (by first | (simp; done) | (simp; omega) | omega) ?_)⟩)
    · have HQ : Hid (decide (x.q.size ≤ 1000) = false) := by simp [Hid]; omega
      clear k1
      go_enter Try.func27, Try.ntmps27
      go_wp2_with fail
      go_quiet (fail)
      go_wp2_with fail
      refine Calls.mono (implName_any x.s _ ws) ?_
      rw [HO.out]
      rintro e w1 ⟨rfl, rfl⟩
      cases bo <;> cases b2 <;> cases b4 <;> (
        go_wp2_with fail
        go_returns
        exact ⟨ret_bool (by rw [HK.out, HO.out, HQ.out]; rfl), by repeat (first | (with_reducible exact Below.refl _ _) | (with_reducible refine Below.drew ?_) | (with_reducible refine belowN ?_ _) | (with_reducible refine Below.alloc ?_ ?hh _; case hh => first | (simp; done) | (simp; omega) | omega) | (with_reducible refine Below.setCell ?_ ?hh _; case hh => first | (simp; done) | (simp; omega) | omega) | refine bstep (by assumption) (by first | (simp; done) | (simp; omega) | omega) ?_)⟩)
  have k1' : (x.k == 1) = false := by simpa using k1
  rw [if_neg k1] at HK
  clear k1
  by_cases k2 : x.k = 2
  · rw [if_pos k2] at HK
    have k2' : (x.k == 2) = true := by simpa using k2
    obtain ⟨bo, HO⟩ : ∃ b, Hid (nameB x.s = b) := ⟨_, rfl⟩
    clear k2
    go_enter Try.func27, Try.ntmps27
    go_wp2_with fail
    go_quiet (fail)
    go_wp2_with fail
    refine Calls.mono (implName_any x.s _ ws) ?_
    rw [HO.out]
    rintro e w1 ⟨rfl, rfl⟩
    cases bo <;> cases b2 <;> cases b3 <;> cases b4 <;> (
      go_wp2_with fail
      go_returns
      exact ⟨ret_bool (by rw [HK.out, HO.out]; rfl), by repeat (first | (with_reducible exact Below.refl _ _) | (with_reducible refine Below.drew ?_) | (with_reducible refine belowN ?_ _) | (with_reducible refine Below.alloc ?_ ?hh _; case hh => first | (simp; done) | (simp; omega) | omega) | (with_reducible refine Below.setCell ?_ ?hh _; case hh => first | (simp; done) | (simp; omega) | omega) | refine bstep (by assumption) (by first | (simp; done) | (simp; omega) | omega) ?_)⟩)
  have k2' : (x.k == 2) = false := by simpa using k2
  rw [if_neg k2] at HK
  clear k2
  by_cases k3 : x.k = 3
  · rw [if_pos k3] at HK
    have k3' : (x.k == 3) = true := by simpa using k3
    obtain ⟨bo, HO⟩ : ∃ b, Hid (okRels x.rs = b) := ⟨_, rfl⟩
    clear k3
    cases b1 with
    | false =>
      go_enter Try.func27, Try.ntmps27
      go_wp2_with fail
      go_quiet (fail)
      go_wp2_with fail
      go_returns
      exact ⟨ret_bool (by rw [HK.out]; rfl), by repeat (first | (with_reducible exact Below.refl _ _) | (with_reducible refine Below.drew ?_) | (with_reducible refine belowN ?_ _) | (with_reducible refine Below.alloc ?_ ?hh _; case hh => first | (simp; done) | (simp; omega) | omega) | (with_reducible refine Below.setCell ?_ ?hh _; case hh => first | (simp; done) | (simp; omega) | omega) | refine bstep (by assumption) (by first | (simp; done) | (simp; omega) | omega) ?_)⟩
    | true =>
    cases b2 with
    | false =>
      go_enter Try.func27, Try.ntmps27
      go_wp2_with fail
      go_quiet (fail)
      go_wp2_with fail
      go_returns
      exact ⟨ret_bool (by rw [HK.out]; rfl), by repeat (first | (with_reducible exact Below.refl _ _) | (with_reducible refine Below.drew ?_) | (with_reducible refine belowN ?_ _) | (with_reducible refine Below.alloc ?_ ?hh _; case hh => first | (simp; done) | (simp; omega) | omega) | (with_reducible refine Below.setCell ?_ ?hh _; case hh => first | (simp; done) | (simp; omega) | omega) | refine bstep (by assumption) (by first | (simp; done) | (simp; omega) | omega) ?_)⟩
    | true =>
    cases b3 with
    | false =>
      go_enter Try.func27, Try.ntmps27
      go_wp2_with fail
      go_quiet (fail)
      go_wp2_with fail
      go_returns
      exact ⟨ret_bool (by rw [HK.out]; rfl), by repeat (first | (with_reducible exact Below.refl _ _) | (with_reducible refine Below.drew ?_) | (with_reducible refine belowN ?_ _) | (with_reducible refine Below.alloc ?_ ?hh _; case hh => first | (simp; done) | (simp; omega) | omega) | (with_reducible refine Below.setCell ?_ ?hh _; case hh => first | (simp; done) | (simp; omega) | omega) | refine bstep (by assumption) (by first | (simp; done) | (simp; omega) | omega) ?_)⟩
    | true =>
    go_enter Try.func27, Try.ntmps27
    go_wp2_with fail
    go_quiet (fail)
    go_wp2_with fail
    refine Calls.mono (relsOk_any _ x.rs _ wr (hR.below ?hb)) ?_
    case hb => repeat (first | (with_reducible exact Below.refl _ _) | (with_reducible refine Below.drew ?_) | (with_reducible refine belowN ?_ _) | (with_reducible refine Below.alloc ?_ ?hh _; case hh => first | (simp; done) | (simp; omega) | omega) | (with_reducible refine Below.setCell ?_ ?hh _; case hh => first | (simp; done) | (simp; omega) | omega) | refine bstep (by assumption) (by first | (simp; done) | (simp; omega) | omega) ?_)
    rw [HO.out]
    rintro e w1 ⟨rfl, hb1⟩
    have bel1 : Below w.heap.size w w1 := by
      refine Below.trans ?_ (hb1.mono ?_)
      · repeat (first | (with_reducible exact Below.refl _ _) | (with_reducible refine Below.drew ?_) | (with_reducible refine belowN ?_ _) | (with_reducible refine Below.alloc ?_ ?hh _; case hh => first | (simp; done) | (simp; omega) | omega) | (with_reducible refine Below.setCell ?_ ?hh _; case hh => first | (simp; done) | (simp; omega) | omega) | refine bstep (by assumption) (by first | (simp; done) | (simp; omega) | omega) ?_)
      · (simp; try omega)
    go_wp2_with fail
    go_returns
    exact ⟨ret_bool (by rw [HK.out, HO.out]; rfl), bel1⟩
  have k3' : (x.k == 3) = false := by simpa using k3
  rw [if_neg k3] at HK
  clear k3
  go_enter Try.func27, Try.ntmps27
  go_wp2_with fail
  go_quiet (fail)
  go_wp2_with fail
  go_returns
  exact ⟨ret_bool (by rw [HK.out]), by repeat (first | (with_reducible exact Below.refl _ _) | (with_reducible refine Below.drew ?_) | (with_reducible refine belowN ?_ _) | (with_reducible refine Below.alloc ?_ ?hh _; case hh => first | (simp; done) | (simp; omega) | omega) | (with_reducible refine Below.setCell ?_ ?hh _; case hh => first | (simp; done) | (simp; omega) | omega) | refine bstep (by assumption) (by first | (simp; done) | (simp; omega) | omega) ?_)⟩
end Go.Proofs.Ytdkbhoichmcodaa
/- Own text. The contract of impl.PutBag. -/
namespace Go.Proofs.Ytdkbhoichmcodaa
open Go.RowKit
set_option linter.unusedVariables false
set_option maxHeartbeats 4000000 in
set_option maxRecDepth 100000 in
theorem implPutBag_any (W : Int) (v : Value) (cs : List C2) (w : World) (hw : CsWf cs) (hr : RowsIs w v cs) :
    Calls Try.prog 79 #[.agg #[.int .i64 W, v]] w fun e w' => e = .returned (.string (putB W cs)) ∧ Below w.heap.size w w' := by
  obtain ⟨i0, hi, hi0, hi1, hi2⟩ := info_parts info5
  have hr0 := hr
  obtain ⟨a, c, b, o, rfl, hl, hc, ha⟩ := hr.pick
  unfold maxLen at hc
  go_enter Try.func79, Try.ntmps79
  go_wp2_with fail
  refine Calls.mono (implBagOk_any W (.slice a cs.length c) cs _ hw (hr0.below ?hb)) ?_
  case hb => repeat (first | exact Below.refl _ _ | refine Below.drew ?_ | refine Below.alloc ?_ (by first | (simp; done) | (simp; omega) | omega) _ | refine Below.setCell ?_ (by first | (simp; done) | (simp; omega) | omega) _ | refine bstep (by assumption) (by first | (simp; done) | (simp; omega) | omega) ?_)
  rintro e w1 ⟨rfl, hb1⟩
  have hz1 := hb1.size
  simp only [World.size_alloc] at hz1
  have p0 : w1.cell? ⟨w.heap.size, 0, none⟩ = some (.int .i64 W) := cell_later hb1 (by go_simp)
  have p1 : w1.cell? ⟨w.heap.size, 1, none⟩ = some (.slice a cs.length c) := cell_later hb1 (by go_simp)
  have bel1 : Below w.heap.size w w1 := by repeat (first | exact Below.refl _ _ | refine Below.drew ?_ | refine Below.alloc ?_ (by first | (simp; done) | (simp; omega) | omega) _ | refine Below.setCell ?_ (by first | (simp; done) | (simp; omega) | omega) _ | refine bstep (by assumption) (by first | (simp; done) | (simp; omega) | omega) ?_)
  have hsz1 : w.heap.size < w1.heap.size := by omega
  by_cases hok : okBag W cs = true
  rotate_left
  · have hf : okBag W cs = false := by simpa using hok
    go_wp2
    go_returns
    exact ⟨by simp [putB, hf], bel1⟩
  obtain ⟨hW0, hW1, hlen, hrl⟩ := okBag_facts hok
  have hWm : W % 256 = W := by omega
  have HP : Hid (putB W cs = strOfNums (bagN W cs)) := by simp [Hid, putB, hok]
  have hr1 := hr0.below bel1
  clear hr hr0 ha
  obtain ⟨a', c', b, o, hv', _, _, ha⟩ := hr1.pick
  obtain ⟨rfl, rfl⟩ : a = a' ∧ c = c' := by simpa using hv'
  clear hv' hr1
  go_wp2
  go_loopw [3, 16] (fun v i wr => ∃ k : Nat, k ≤ cs.length ∧ i = .int .i64 k ∧ wr.ownsRow w1.heap.size 5 1 v (bagN W (cs.take k)).length ((bagN W (cs.take k)).map (Value.int .u8)) ∧ Below w1.heap.size w1 wr) (fun _ i _ => cs.length - (intOf i).toNat)
  case atStart => exact ⟨0, Nat.zero_le _, rfl, own_start w1 W, by repeat (first | exact Below.refl _ _ | refine Below.drew ?_ | refine Below.alloc ?_ (by first | (simp; done) | (simp; omega) | omega) _ | refine Below.setCell ?_ (by first | (simp; done) | (simp; omega) | omega) _ | refine bstep (by assumption) (by first | (simp; done) | (simp; omega) | omega) ?_)⟩
  case round =>
    obtain ⟨k, hk, rfl, hown, hb⟩ := hrel
    have hzb := hb.size
    have hkl : (bagN W (cs.take k)).length ≤ 500000 := by
      have := csN_len (cs := cs.take k) fun x hx => hrl x (List.mem_of_mem_take hx)
      have h2 : (cs.take k).length ≤ 400 := by simp; omega
      simp only [bagN, List.length_cons]; omega
    by_cases hlt : k < cs.length
    · obtain ⟨rfl, hblt, hL⟩ := ha k hlt
      obtain ⟨x, hx⟩ : ∃ x, cs[k]? = some x := ⟨cs[k], by simp [hlt]⟩
      obtain ⟨u, e0, hR, e2⟩ := hL k x hx
      have c0 : wr.cell? ⟨b, o + k * 2, none⟩ = some u := (hb.cell (p := ⟨b, o + k * 2, none⟩) hblt).trans e0
      have c1 : wr.cell? ⟨b, o + k * 2 + 1, none⟩ = some (.int .i64 x.n) := (hb.cell (p := ⟨b, o + k * 2 + 1, none⟩) hblt).trans e2
      have hbr : b < wr.heap.size := Nat.lt_of_lt_of_le hblt hzb
      obtain ⟨ur, lr, cr, rfl⟩ := hR.shape
      have HX : Hid (cs[k]? = some x) := hx
      clear e0 e2
      have hxw : VsWf x.r := (hw x (List.mem_of_getElem? hx)).1
      have hxl : x.r.length ≤ 12 := hrl x (List.mem_of_getElem? hx)
      have hxu := rowU_len x.r
      clear ha hL hx hw hrl
      go_wp2_with fail
      refine Calls.mono (numberBytes_any x.n _) ?_
      rintro e w2 ⟨y, rfl, hy, hb2⟩
      have hz2 := hb2.size
      simp at hz2
      have hown2 := own_below (hown.alloc (.cells #[.slice ur lr cr, .int .i64 x.n] 131)) hb2
      have q0 : w2.cell? ⟨wr.heap.size, 0, none⟩ = some (.slice ur lr cr) := cell_later hb2 (by go_simp)
      have bel2 : Below w1.heap.size w1 w2 := by repeat (first | exact Below.refl _ _ | refine Below.drew ?_ | refine Below.alloc ?_ (by first | (simp; done) | (simp; omega) | omega) _ | refine Below.setCell ?_ (by first | (simp; done) | (simp; omega) | omega) _ | refine bstep (by assumption) (by first | (simp; done) | (simp; omega) | omega) ?_)
      obtain ⟨g, cap, rfl, hcl⟩ := own_cells hy
      go_wp2_with (at_builtin; refine wpList_append_own _ rfl _ _ 105 rfl w1.heap.size 5 i0 (.int .u8 0) 1 1 Try.underlying105 hi hi0 hi1 hi2 rfl (by decide) _ _ _ rfl hown2 ⟨g, 0, none⟩ 9 cap ((numL x.n 8).map (Value.int .u8)) rfl (by simp [numL_len]) hcl ?c2 ?c3 ?c4 ?c5 ?_)
      case c2 => intro u hu; obtain ⟨n, _, rfl⟩ := List.mem_map.1 hu; rfl
      case c3 => unfold maxLen; omega
      case c4 => omega
      case c5 => omega
      intro v3 w3 hown3 hgr3 _
      have hz3 := hgr3.size
      have bel3 : Below w1.heap.size w1 w3 := bel2.grown hgr3 (by omega) (fun k hk => (hown2.lt k hk).1)
      have q3 : w3.cell? ⟨wr.heap.size, 0, none⟩ = some (.slice ur lr cr) := (World.cell?_of_block (w := w2) (hgr3.block wr.heap.size (by omega) (fun e => by have := (hown.lt _ e.symm).2; omega))).trans q0
      clear hown2 hgr3 hown q0 hcl hy
      go_wp2_with fail
      refine Calls.mono (rowBytes_any _ x.r _ (hR.below bel3) hxw (by omega)) ?_
      rintro e w4 ⟨rfl, hb4⟩
      have hz4 := hb4.size
      have hown4 := own_below hown3 hb4
      have bel4 : Below w1.heap.size w1 w4 := by repeat (first | exact Below.refl _ _ | refine Below.drew ?_ | refine Below.alloc ?_ (by first | (simp; done) | (simp; omega) | omega) _ | refine Below.setCell ?_ (by first | (simp; done) | (simp; omega) | omega) _ | refine bstep (by assumption) (by first | (simp; done) | (simp; omega) | omega) ?_)
      clear hown3
      go_wp2_with (at_builtin; refine Lib.wpList_append_own_string _ rfl _ _ 105 9 rfl w1.heap.size 5 i0 Try.underlying105 Try.underlying9 hi hi0 hi1 hi2 _ _ _ rfl hown4 ⟨(rowU x.r).toArray⟩ rfl ?d3 ?d4 ?d5 ?_)
      case d3 => have : (⟨(rowU x.r).toArray⟩ : ByteArray).size = (rowU x.r).length := by simp [ByteArray.size]
                 unfold maxLen; omega
      case d4 => have : (⟨(rowU x.r).toArray⟩ : ByteArray).size = (rowU x.r).length := by simp [ByteArray.size]
                 omega
      case d5 => omega
      intro v5 w5 hown5 hgr5 _
      have hz5 := hgr5.size
      have bel5 : Below w1.heap.size w1 w5 := bel4.grown hgr5 (by omega) (fun k hk => (hown4.lt k hk).1)
      have eN : bagN W (cs.take (k + 1)) = bagN W (cs.take k) ++ (numL x.n 8 ++ nb (rowU x.r)) := by unfold bagN; rw [csN_take HX.out]; rfl
      have R5 : w5.ownsRow w1.heap.size 5 1 v5 (bagN W (cs.take (k + 1))).length ((bagN W (cs.take (k + 1))).map (Value.int .u8)) := by
        refine own_eq hown5 ?_ ?_
        · rw [eN]; simp only [List.length_append, numL_len, nb_len]; simp; omega
        · rw [eN]; simp only [List.map_append, nb_cells]; rfl
      clear hown5 hgr5 hown4 eN
      go_wp2
      go_roundw
      case rel => exact ⟨k + 1, hlt, by simp, R5, bel5⟩
      case measure => simp [intOf]; omega
    · clear ha hw hrl
      obtain rfl : k = cs.length := by omega
      rw [List.take_length] at hown
      have hcv := conv_own (bagN W cs) hown (by simp [bagN])
      go_wp2
      go_returns
      exact ⟨ret_str HP.out.symm, bel1.trans (hb.mono (by omega))⟩
end Go.Proofs.Ytdkbhoichmcodaa
/- Own text. The contract of impl.PutStep. -/
namespace Go.Proofs.Ytdkbhoichmcodaa
open Go.RowKit Go.Deep
set_option linter.unusedVariables false
theorem putT_no {x : T5} (h : okStep x = false) : putT x = ⟨#[]⟩ := by simp [putT, h]
theorem putT_yes {x : T5} (h : okStep x = true) : putT x = strOfNums (stepL x) := by simp [putT, h]
set_option maxHeartbeats 4000000 in
set_option maxRecDepth 100000 in
theorem implPutStep_any (x : T5) (uc ur : Value) (w : World) (hw : x.wf) (hr : StpIs w uc ur x) :
    Calls Try.prog 30 #[(.agg #[.int .i64 x.k, .string x.s, uc, .string x.q, ur])] w fun e w' => e = .returned (.string (putT x)) ∧ Below w.heap.size w w' := by
  obtain ⟨⟨ac, cc, rfl, _, _⟩, ar, cr, rfl, _, _⟩ := hr.shape
  obtain ⟨bo, HO⟩ : ∃ b, Hid (okStep x = b) := ⟨_, rfl⟩
  go_enter Try.func30, Try.ntmps30
  go_wp2_with fail
  refine Calls.mono (implStepOk_any x (.slice ac x.cs.length cc) (.slice ar x.rs.length cr) _ hw (hr.below ?hb)) ?_
  case hb => repeat (first | (with_reducible exact Below.refl _ _) | (with_reducible refine Below.drew ?_) | (with_reducible refine Below.alloc ?_ ?hh _; case hh => first | (simp; done) | (simp; omega) | omega) | (with_reducible refine Below.setCell ?_ ?hh _; case hh => first | (simp; done) | (simp; omega) | omega) | refine bstep (by assumption) (by first | (simp; done) | (simp; omega) | omega) ?_)
  rw [HO.out]
  rintro e w1 ⟨rfl, hb1⟩
  have hz1 := hb1.size
  simp only [World.size_alloc] at hz1
  have b0 : w1.cell? ⟨w.heap.size, 0, none⟩ = some (.int .i64 x.k) := cell_later hb1 (by go_simp)
  have b1 : w1.cell? ⟨w.heap.size, 1, none⟩ = some (.string x.s) := cell_later hb1 (by go_simp)
  have b2 : w1.cell? ⟨w.heap.size, 2, none⟩ = some (.slice ac x.cs.length cc) := cell_later hb1 (by go_simp)
  have b3 : w1.cell? ⟨w.heap.size, 3, none⟩ = some (.string x.q) := cell_later hb1 (by go_simp)
  have b4 : w1.cell? ⟨w.heap.size, 4, none⟩ = some (.slice ar x.rs.length cr) := cell_later hb1 (by go_simp)
  have bel1 : Below w.heap.size w w1 := by repeat (first | (with_reducible exact Below.refl _ _) | (with_reducible refine Below.drew ?_) | (with_reducible refine Below.alloc ?_ ?hh _; case hh => first | (simp; done) | (simp; omega) | omega) | (with_reducible refine Below.setCell ?_ ?hh _; case hh => first | (simp; done) | (simp; omega) | omega) | refine bstep (by assumption) (by first | (simp; done) | (simp; omega) | omega) ?_)
  clear hb1
  have hN : w.heap.size < w1.heap.size := by omega
  cases bo with
  | false =>
    have HT : Hid (putT x = ⟨#[]⟩) := putT_no HO.out
    go_wp2_with fail
    go_returns
    exact ⟨by rw [HT.out]; rfl, bel1⟩
  | true =>
  have HT : Hid (putT x = strOfNums (stepL x)) := putT_yes HO.out
  have hB := okStep_bnd HO.out
  have hk0 := hB.k0
  have hk3 := hB.k3
  have hbs := hB.s
  have hbq := hB.q
  have hcl := hB.cl
  have hrl := hB.rl
  have HHD := hdL_len hB
  have HMD := mdL_len hB
  obtain ⟨⟨gs, hS⟩, hR⟩ := hr
  go_wp2_with fail
  have hp := Pk.new w1 w1.heap.size (Nat.le_refl _)
  have hbN : Below w1.heap.size w1 (w1.alloc (.cells #[.slice none 0 0] 109)) := by repeat (first | (with_reducible exact Below.refl _ _) | (with_reducible refine Below.drew ?_) | (with_reducible refine Below.alloc ?_ ?hh _; case hh => first | (simp; done) | (simp; omega) | omega) | (with_reducible refine Below.setCell ?_ ?hh _; case hh => first | (simp; done) | (simp; omega) | omega) | refine bstep (by assumption) (by first | (simp; done) | (simp; omega) | omega) ?_)
  have c0 : (w1.alloc (.cells #[.slice none 0 0] 109)).cell? ⟨w.heap.size, 0, none⟩ = some (.int .i64 x.k) := (hbN.cell (p := ⟨w.heap.size, 0, none⟩) hN).trans b0
  have c1 : (w1.alloc (.cells #[.slice none 0 0] 109)).cell? ⟨w.heap.size, 1, none⟩ = some (.string x.s) := (hbN.cell (p := ⟨w.heap.size, 1, none⟩) hN).trans b1
  have c2 : (w1.alloc (.cells #[.slice none 0 0] 109)).cell? ⟨w.heap.size, 2, none⟩ = some (.slice ac x.cs.length cc) := (hbN.cell (p := ⟨w.heap.size, 2, none⟩) hN).trans b2
  have c3 : (w1.alloc (.cells #[.slice none 0 0] 109)).cell? ⟨w.heap.size, 3, none⟩ = some (.string x.q) := (hbN.cell (p := ⟨w.heap.size, 3, none⟩) hN).trans b3
  have c4 : (w1.alloc (.cells #[.slice none 0 0] 109)).cell? ⟨w.heap.size, 4, none⟩ = some (.slice ar x.rs.length cr) := (hbN.cell (p := ⟨w.heap.size, 4, none⟩) hN).trans b4
  generalize w1.alloc (.cells #[.slice none 0 0] 109) = w2 at hp hbN c0 c1 c2 c3 c4 ⊢
  refine Calls.mono (number_any w1.heap.size w1.heap.size _ [] x.k 1 w2 hp hk0 (by omega) (Or.inl rfl) (by simp)) ?_
  rintro e w3 ⟨rfl, ⟨uw3, hpw3⟩, hbw3, hkw3⟩
  replace hbN : Below w1.heap.size w1 w3 := hbN.trans hbw3
  clear hbw3 hkw3
  clear c0 c1 c2 c3 c4
  have c0 : w3.cell? ⟨w.heap.size, 0, none⟩ = some (.int .i64 x.k) := (hbN.cell (p := ⟨w.heap.size, 0, none⟩) hN).trans b0
  have c1 : w3.cell? ⟨w.heap.size, 1, none⟩ = some (.string x.s) := (hbN.cell (p := ⟨w.heap.size, 1, none⟩) hN).trans b1
  have c2 : w3.cell? ⟨w.heap.size, 2, none⟩ = some (.slice ac x.cs.length cc) := (hbN.cell (p := ⟨w.heap.size, 2, none⟩) hN).trans b2
  have c3 : w3.cell? ⟨w.heap.size, 3, none⟩ = some (.string x.q) := (hbN.cell (p := ⟨w.heap.size, 3, none⟩) hN).trans b3
  have c4 : w3.cell? ⟨w.heap.size, 4, none⟩ = some (.slice ar x.rs.length cr) := (hbN.cell (p := ⟨w.heap.size, 4, none⟩) hN).trans b4
  go_wp2_with fail
  refine Calls.mono (text_any w1.heap.size w1.heap.size _ _ x.s 2 w3 hpw3 (by omega) (Or.inr (Or.inl rfl)) (by simp [szN_len])) ?_
  rintro e w4 ⟨rfl, ⟨uw4, hpw4⟩, hbw4, hkw4⟩
  replace hbN : Below w1.heap.size w1 w4 := hbN.trans hbw4
  clear hbw4 hkw4
  clear c0 c1 c2 c3 c4
  have c0 : w4.cell? ⟨w.heap.size, 0, none⟩ = some (.int .i64 x.k) := (hbN.cell (p := ⟨w.heap.size, 0, none⟩) hN).trans b0
  have c1 : w4.cell? ⟨w.heap.size, 1, none⟩ = some (.string x.s) := (hbN.cell (p := ⟨w.heap.size, 1, none⟩) hN).trans b1
  have c2 : w4.cell? ⟨w.heap.size, 2, none⟩ = some (.slice ac x.cs.length cc) := (hbN.cell (p := ⟨w.heap.size, 2, none⟩) hN).trans b2
  have c3 : w4.cell? ⟨w.heap.size, 3, none⟩ = some (.string x.q) := (hbN.cell (p := ⟨w.heap.size, 3, none⟩) hN).trans b3
  have c4 : w4.cell? ⟨w.heap.size, 4, none⟩ = some (.slice ar x.rs.length cr) := (hbN.cell (p := ⟨w.heap.size, 4, none⟩) hN).trans b4
  go_wp2_with fail
  refine Calls.mono (number_any w1.heap.size w1.heap.size _ _ x.cs.length 1 w4 hpw4 (by omega) (by omega) (Or.inl rfl) (by simp [szN_len, tN_len]; omega)) ?_
  rintro e w5 ⟨rfl, ⟨uw5, hpw5⟩, hbw5, hkw5⟩
  replace hbN : Below w1.heap.size w1 w5 := hbN.trans hbw5
  clear hbw5 hkw5
  clear c0 c1 c2 c3 c4
  have c0 : w5.cell? ⟨w.heap.size, 0, none⟩ = some (.int .i64 x.k) := (hbN.cell (p := ⟨w.heap.size, 0, none⟩) hN).trans b0
  have c1 : w5.cell? ⟨w.heap.size, 1, none⟩ = some (.string x.s) := (hbN.cell (p := ⟨w.heap.size, 1, none⟩) hN).trans b1
  have c2 : w5.cell? ⟨w.heap.size, 2, none⟩ = some (.slice ac x.cs.length cc) := (hbN.cell (p := ⟨w.heap.size, 2, none⟩) hN).trans b2
  have c3 : w5.cell? ⟨w.heap.size, 3, none⟩ = some (.string x.q) := (hbN.cell (p := ⟨w.heap.size, 3, none⟩) hN).trans b3
  have c4 : w5.cell? ⟨w.heap.size, 4, none⟩ = some (.slice ar x.rs.length cr) := (hbN.cell (p := ⟨w.heap.size, 4, none⟩) hN).trans b4
  have hp5 : Pk w5 w1.heap.size w1.heap.size uw5 (hdL x) := hpw5.eq (by simp [hdL])
  clear hp hpw3 hpw4 hpw5
  go_wp2_with fail
  go_loopw [25] (fun i wr => ∃ (k : Nat) (u : Value), k ≤ x.cs.length ∧ i = .int .i64 k ∧ Pk wr w1.heap.size w1.heap.size u (hdL x ++ csL (x.cs.take k)) ∧ Below w1.heap.size w1 wr) (fun i _ => x.cs.length - (intOf i).toNat)
  case atStart => exact ⟨0, uw5, Nat.zero_le _, rfl, hp5.eq (by simp [csL]), hbN⟩
  case round =>
    clear hbN hp5
    clear c0 c1 c2 c3 c4
    obtain ⟨k, u, hk, rfl, hp, hbN⟩ := hrel
    by_cases hlt : k < x.cs.length
    · obtain ⟨a0, c0, b, o, e0, hl, hc, _, ha⟩ := hS.pick
      obtain ⟨rfl, rfl⟩ : ac = a0 ∧ cc = c0 := by simpa using e0
      obtain ⟨rfl, hblt, _, hcell⟩ := ha k hlt
      have hx : x.cs[k]? = some x.cs[k] := by simp
      have hbw := bel1.trans (hbN.mono bel1.size)
      have d0 := (hbw.cell (p := ⟨b, o + k, none⟩) hblt).trans (hcell k _ hx)
      have hms := hB.c _ (List.getElem_mem hlt)
      have HX : Hid (csL (x.cs.take (k + 1)) = csL (x.cs.take k) ++ tN x.cs[k] 2) := csL_take hx
      have hln := hc_len hB k
      generalize x.cs[k] = m at d0 hms HX
      clear hcell hx ha e0
      go_wp2_with fail
      refine Calls.mono (text_any w1.heap.size w1.heap.size u _ m 2 wr hp (by omega) (Or.inr (Or.inl rfl)) (by omega)) ?_
      rintro e w6 ⟨rfl, ⟨u6, hp6⟩, hb6, hk6⟩
      go_wp2_with fail
      exact ⟨⟨k + 1, u6, hlt, by simp, hp6.eq (by rw [HX.out, List.append_assoc]), hbN.trans hb6⟩, by simp [intOf]; omega⟩
    · obtain rfl : k = x.cs.length := by omega
      rw [List.take_length] at hp
      have hln := hc_len hB x.cs.length
      rw [List.take_length] at hln
      have c0 : wr.cell? ⟨w.heap.size, 0, none⟩ = some (.int .i64 x.k) := (hbN.cell (p := ⟨w.heap.size, 0, none⟩) hN).trans b0
      have c1 : wr.cell? ⟨w.heap.size, 1, none⟩ = some (.string x.s) := (hbN.cell (p := ⟨w.heap.size, 1, none⟩) hN).trans b1
      have c2 : wr.cell? ⟨w.heap.size, 2, none⟩ = some (.slice ac x.cs.length cc) := (hbN.cell (p := ⟨w.heap.size, 2, none⟩) hN).trans b2
      have c3 : wr.cell? ⟨w.heap.size, 3, none⟩ = some (.string x.q) := (hbN.cell (p := ⟨w.heap.size, 3, none⟩) hN).trans b3
      have c4 : wr.cell? ⟨w.heap.size, 4, none⟩ = some (.slice ar x.rs.length cr) := (hbN.cell (p := ⟨w.heap.size, 4, none⟩) hN).trans b4
      go_wp2_with fail
      refine Calls.mono (text_any w1.heap.size w1.heap.size u _ x.q 2 wr hp (by omega) (Or.inr (Or.inl rfl)) (by omega)) ?_
      rintro e w6 ⟨rfl, ⟨uw6, hpw6⟩, hbw6, hkw6⟩
      replace hbN : Below w1.heap.size w1 w6 := hbN.trans hbw6
      clear hbw6 hkw6
      clear c0 c1 c2 c3 c4
      have c0 : w6.cell? ⟨w.heap.size, 0, none⟩ = some (.int .i64 x.k) := (hbN.cell (p := ⟨w.heap.size, 0, none⟩) hN).trans b0
      have c1 : w6.cell? ⟨w.heap.size, 1, none⟩ = some (.string x.s) := (hbN.cell (p := ⟨w.heap.size, 1, none⟩) hN).trans b1
      have c2 : w6.cell? ⟨w.heap.size, 2, none⟩ = some (.slice ac x.cs.length cc) := (hbN.cell (p := ⟨w.heap.size, 2, none⟩) hN).trans b2
      have c3 : w6.cell? ⟨w.heap.size, 3, none⟩ = some (.string x.q) := (hbN.cell (p := ⟨w.heap.size, 3, none⟩) hN).trans b3
      have c4 : w6.cell? ⟨w.heap.size, 4, none⟩ = some (.slice ar x.rs.length cr) := (hbN.cell (p := ⟨w.heap.size, 4, none⟩) hN).trans b4
      go_wp2_with fail
      refine Calls.mono (number_any w1.heap.size w1.heap.size _ _ x.rs.length 1 w6 hpw6 (by omega) (by omega) (Or.inl rfl) (by rw [List.length_append, tN_len]; omega)) ?_
      rintro e w7 ⟨rfl, ⟨uw7, hpw7⟩, hbw7, hkw7⟩
      replace hbN : Below w1.heap.size w1 w7 := hbN.trans hbw7
      clear hbw7 hkw7
      clear c0 c1 c2 c3 c4
      have c0 : w7.cell? ⟨w.heap.size, 0, none⟩ = some (.int .i64 x.k) := (hbN.cell (p := ⟨w.heap.size, 0, none⟩) hN).trans b0
      have c1 : w7.cell? ⟨w.heap.size, 1, none⟩ = some (.string x.s) := (hbN.cell (p := ⟨w.heap.size, 1, none⟩) hN).trans b1
      have c2 : w7.cell? ⟨w.heap.size, 2, none⟩ = some (.slice ac x.cs.length cc) := (hbN.cell (p := ⟨w.heap.size, 2, none⟩) hN).trans b2
      have c3 : w7.cell? ⟨w.heap.size, 3, none⟩ = some (.string x.q) := (hbN.cell (p := ⟨w.heap.size, 3, none⟩) hN).trans b3
      have c4 : w7.cell? ⟨w.heap.size, 4, none⟩ = some (.slice ar x.rs.length cr) := (hbN.cell (p := ⟨w.heap.size, 4, none⟩) hN).trans b4
      have hp7 : Pk w7 w1.heap.size w1.heap.size uw7 (mdL x) := hpw7.eq (by simp [mdL])
      clear hp hpw6 hpw7
      go_wp2_with fail
      go_loopw [42] (fun i wr => ∃ (k : Nat) (u : Value), k ≤ x.rs.length ∧ i = .int .i64 k ∧ Pk wr w1.heap.size w1.heap.size u (mdL x ++ rlsL (x.rs.take k)) ∧ Below w1.heap.size w1 wr) (fun i _ => x.rs.length - (intOf i).toNat)
      case atStart => exact ⟨0, uw7, Nat.zero_le _, rfl, hp7.eq (by simp [rlsL]), hbN⟩
      case round =>
        clear hbN hp7
        clear c0 c1 c2 c3 c4
        obtain ⟨k, u, hk, rfl, hp, hbN⟩ := hrel
        by_cases hlt : k < x.rs.length
        · obtain ⟨a0, c0, b, o, e0, hl, hc, ha⟩ := hR.pick
          obtain ⟨rfl, rfl⟩ : ar = a0 ∧ cr = c0 := by simpa using e0
          obtain ⟨rfl, hblt, hL⟩ := ha k hlt
          have hx : x.rs[k]? = some x.rs[k] := by simp
          have hbw := bel1.trans (hbN.mono bel1.size)
          obtain ⟨v, q0, q1, q2, hRw⟩ := hL k x.rs[k] hx
          obtain ⟨av, lv, cv, rfl⟩ := hRw.shape
          have d0 := (hbw.cell (p := ⟨b, _, none⟩) hblt).trans q0
          have d1 := (hbw.cell (p := ⟨b, _, none⟩) hblt).trans q1
          have d2 := (hbw.cell (p := ⟨b, _, none⟩) hblt).trans q2
          have hms := hB.r _ (List.getElem_mem hlt)
          obtain ⟨_, _, hmw⟩ := hw.2.2.2.2 _ (List.getElem_mem hlt)
          have HX : Hid (rlsL (x.rs.take (k + 1)) = rlsL (x.rs.take k) ++ rlL x.rs[k]) := rlsL_take hx
          have hln := md_len hB k
          generalize x.rs[k] = m at d0 d1 d2 hms HX hRw hmw
          have hsr : w1.heap.size < wr.heap.size := hp.lt
          have hbr : b < wr.heap.size := by have := hbw.size; omega
          have hps := putB_size m.W m.cs
          clear hx ha e0 q0 q1 q2 hL
          go_wp2_with fail
          have hbA0 : Below wr.heap.size wr (wr.alloc (.cells #[.string m.s, .int .i64 m.W, .slice av lv cv] 87)) := by repeat (first | (with_reducible exact Below.refl _ _) | (with_reducible refine Below.drew ?_) | (with_reducible refine Below.alloc ?_ ?hh _; case hh => first | (simp; done) | (simp; omega) | omega) | (with_reducible refine Below.setCell ?_ ?hh _; case hh => first | (simp; done) | (simp; omega) | omega) | refine bstep (by assumption) (by first | (simp; done) | (simp; omega) | omega) ?_)
          have hpA := hp.keep hbA0
          have hbA : Below w1.heap.size w1 (wr.alloc (.cells #[.string m.s, .int .i64 m.W, .slice av lv cv] 87)) := hbN.trans (hbA0.mono (Nat.le_of_lt hsr))
          have hRb : (wr.alloc (.cells #[.string m.s, .int .i64 m.W, .slice av lv cv] 87)).heap[wr.heap.size]? = some (.cells #[.string m.s, .int .i64 m.W, .slice av lv cv] 87) := heap_alloc_new wr _
          clear hbA0 hp hbN
          generalize wr.alloc (.cells #[.string m.s, .int .i64 m.W, .slice av lv cv] 87) = wA at hpA hbA hRb ⊢
          refine Calls.mono (text_any w1.heap.size w1.heap.size u _ m.s 2 wA hpA (by omega) (Or.inr (Or.inl rfl)) (by omega)) ?_
          rintro e w6 ⟨rfl, ⟨u6, hp6⟩, hb6, hk6⟩
          have hR6 := (hk6.block _ _ _ _ hRb (by decide) (by omega)).trans hRb
          have y1 : w6.cell? ⟨wr.heap.size, 1, none⟩ = some (.int .i64 m.W) := by rw [Lib.cell_of_heap hR6]; rfl
          have y2 : w6.cell? ⟨wr.heap.size, 2, none⟩ = some (.slice av lv cv) := by rw [Lib.cell_of_heap hR6]; rfl
          have hb6N : Below w1.heap.size w1 w6 := hbA.trans hb6
          have hb6w : Below w.heap.size w w6 := bel1.trans (hb6N.mono bel1.size)
          clear hbA hb6 hk6 hR6 hRb
          go_wp2_with fail
          refine Calls.mono (implPutBag_any m.W (.slice av lv cv) m.cs w6 hmw (hRw.below hb6w)) ?_
          rintro e w7 ⟨rfl, hb7⟩
          have hp7 := hp6.keep hb7
          have hb7N : Below w1.heap.size w1 w7 := hb6N.trans (hb7.mono (Nat.le_of_lt hp6.lt))
          clear hb7 hb6N hb6w hp6
          go_wp2_with fail
          refine Calls.mono (text_any w1.heap.size w1.heap.size u6 _ (putB m.W m.cs) 4 w7 hp7 (by omega) (Or.inr (Or.inr rfl)) (by rw [List.length_append, tN_len]; omega)) ?_
          rintro e w8 ⟨rfl, ⟨u8, hp8⟩, hb8, hk8⟩
          go_wp2_with fail
          exact ⟨⟨k + 1, u8, hlt, by simp, hp8.eq (by rw [HX.out]; simp [rlL]), hb7N.trans hb8⟩, by simp [intOf]; omega⟩
        · obtain rfl : k = x.rs.length := by omega
          rw [List.take_length] at hp
          go_wp2_with fail
          refine Calls.mono (packed_any w1.heap.size w1.heap.size u _ wr hp (mdL_ne x)) ?_
          rintro e w8 ⟨rfl, rfl⟩
          go_wp2_with fail
          go_returns
          exact ⟨by rw [HT.out]; rfl, bel1.trans (hbN.mono bel1.size)⟩
end Go.Proofs.Ytdkbhoichmcodaa
/- Own text. The contract of spec.SchemasOk. -/
namespace Go.Proofs.Ytdkbhoichmcodaa
open Go.RowKit
set_option linter.unusedVariables false
theorem okCols_no {cs : List ByteArray} (h : inB cs.length 1 12 = false) : okCols cs = false := by simp [okCols, h]
theorem okCols_cols {cs : List ByteArray} (h : inB cs.length 1 12 = true) : okCols cs = colsB [] cs := by simp [okCols, h]
set_option maxHeartbeats 8000000 in
set_option maxRecDepth 100000 in
theorem specSchemasOk_any (v : Value) (rs : List S2) (w : World) (hw : HsWf rs) (hr : SchsIs w v rs) :
    Calls Try.prog 66 #[v] w fun e w' => e = .returned (.bool (okSch rs)) ∧ Below w.heap.size w w' := by
  obtain ⟨a, c, b, o, rfl, hl, hc, ha⟩ := hr.pick
  unfold maxLen at hc
  clear hr
  go_enter Try.func66, Try.ntmps66
  go_wp2
  go_loopw [3] (fun i wr => ∃ (k : Nat) (q : Int), k ≤ rs.length ∧ q = k ∧ i = .int .i64 q ∧ Below w.heap.size w wr ∧ okHs none rs = okHs (prevH rs k) (rs.drop k)) (fun i _ => rs.length - (intOf i).toNat)
  case atStart => exact ⟨0, 0, Nat.zero_le _, rfl, rfl, by go_grown, by simp [prevH]⟩
  case round =>
    obtain ⟨k, q, hk, hq, rfl, hb, heq⟩ := hrel
    have HE : Hid (okHs none rs = okHs (prevH rs k) (rs.drop k)) := heq
    have hzb := hb.size
    clear heq
    obtain ⟨wo, hwo⟩ : ∃ y, y = wr := ⟨_, rfl⟩
    subst hwo
    by_cases hlt : k < rs.length
    · obtain ⟨rfl, hblt, hL⟩ := ha k hlt
      obtain ⟨x, u, g, hx, c0, c1, hR, hbr⟩ := hL.at hblt hb hlt
      obtain ⟨ur, cr, rfl, hlc, hcm⟩ := hR.shape
      unfold maxLen at hcm
      obtain ⟨hxs, hxw⟩ := hw x (List.mem_of_getElem? hx)
      have HS : Hid (okHs (prevH rs k) (rs.drop k) = (nameB x.s && okCols x.cs && okPrevH (prevH rs k) x && okHs (prevH rs (k + 1)) (rs.drop (k + 1)))) := okHs_step hx
      by_cases hnm : nameB x.s = true
      rotate_left
      · have hf : nameB x.s = false := by simpa using hnm
        clear ha hw hL hx
        subst hq
        go_wp2_with fail
        refine wp_region_held_drew (S := (fun w' => w'.cell? ⟨wo.heap.size, 0, none⟩ = some (.string x.s) ∧ w'.cell? ⟨wo.heap.size, 1, none⟩ = some (.slice ur x.cs.length cr))) (by kernel_rfl) ?_ (fun hHeld => ?_)
        · (try dsimp only); refine ⟨?_, ?_⟩ <;> first | (go_simp; done) | (exact cell_later (by assumption) (by go_simp))
        refine takeYes (i := 0) (d := 16) (v := ?_) rfl rfl (by kernel_rfl) (by kernel_rfl) (by kernel_rfl) (fun _ _ _ h => h) (by rfl) (by assumption) ?_ ?_
        rotate_left
        · intro w' hSw; (try dsimp only at hSw); go_simp; try exact rfl
        try simp only [List.setIfInBounds_toArray, List.set_cons_zero, List.set_cons_succ]
        refine takeYes (i := 1) (d := 17) (v := ?_) rfl rfl (by kernel_rfl) (by kernel_rfl) (by kernel_rfl) (fun _ _ _ h => h) (by rfl) (by assumption) ?_ ?_
        rotate_left
        · intro w' hSw; (try dsimp only at hSw); go_simp; try exact rfl
        try simp only [List.setIfInBounds_toArray, List.set_cons_zero, List.set_cons_succ]
        refine wpAnyH_ready (rs := [2]) (by kernel_rfl) (by simp) ?_
        refine AllReadyH.cons rfl (fun K hK => ?_) AllReadyH.nil
        go_simp
        go_at_call 67
        refine (specName_any x.s _ hxs).mono ?_
        rintro e w1 ⟨rfl, rfl⟩
        try go_wp2_with fail
        refine hK.out _ _ ?_ (fun hHeld2 => ?_)
        · (try dsimp only); refine ⟨?_, ?_⟩ <;> first | (go_simp; done) | (exact cell_later (by assumption) (by go_simp))
        clear hK
        refine takeYes (i := 3) (d := 19) (v := ?_) rfl rfl (by kernel_rfl) (by kernel_rfl) (by kernel_rfl) (fun _ _ _ h => h) (by rfl) (by assumption) ?_ ?_
        rotate_left
        · intro w' hSw; (try dsimp only at hSw); go_simp; try exact rfl
        try simp only [List.setIfInBounds_toArray, List.set_cons_zero, List.set_cons_succ]
        refine takeYes (i := 4) (d := 20) (v := ?_) rfl rfl (by kernel_rfl) (by kernel_rfl) (by kernel_rfl) (fun _ _ _ h => h) (by rfl) (by assumption) ?_ ?_
        rotate_left
        · intro w' hSw; (try dsimp only at hSw); go_simp; try exact rfl
        try simp only [List.setIfInBounds_toArray, List.set_cons_zero, List.set_cons_succ]
        refine takeNo (i := 5) (d := 21) rfl rfl (by kernel_rfl) (by kernel_rfl) (by kernel_rfl) (fun _ _ _ h => h) (by rfl) (by assumption) ?_
        try simp only [List.setIfInBounds_toArray, List.set_cons_zero, List.set_cons_succ]
        refine takeNo (i := 6) (d := 22) rfl rfl (by kernel_rfl) (by kernel_rfl) (by kernel_rfl) (fun _ _ _ h => h) (by rfl) (by assumption) ?_
        try simp only [List.setIfInBounds_toArray, List.set_cons_zero, List.set_cons_succ]
        refine takeNo (i := 7) (d := 23) rfl rfl (by kernel_rfl) (by kernel_rfl) (by kernel_rfl) (fun _ _ _ h => h) (by rfl) (by assumption) ?_
        try simp only [List.setIfInBounds_toArray, List.set_cons_zero, List.set_cons_succ]
        refine takeNo (i := 8) (d := 24) rfl rfl (by kernel_rfl) (by kernel_rfl) (by kernel_rfl) (fun _ _ _ h => h) (by rfl) (by assumption) ?_
        try simp only [List.setIfInBounds_toArray, List.set_cons_zero, List.set_cons_succ]
        refine takeNo (i := 9) (d := 25) rfl rfl (by kernel_rfl) (by kernel_rfl) (by kernel_rfl) (fun _ _ _ h => h) (by rfl) (by assumption) ?_
        try simp only [List.setIfInBounds_toArray, List.set_cons_zero, List.set_cons_succ]
        refine takeNo (i := 10) (d := 26) rfl rfl (by kernel_rfl) (by kernel_rfl) (by kernel_rfl) (fun _ _ _ h => h) (by rfl) (by assumption) ?_
        try simp only [List.setIfInBounds_toArray, List.set_cons_zero, List.set_cons_succ]
        refine takeNo (i := 11) (d := 27) rfl rfl (by kernel_rfl) (by kernel_rfl) (by kernel_rfl) (fun _ _ _ h => h) (by rfl) (by assumption) ?_
        try simp only [List.setIfInBounds_toArray, List.set_cons_zero, List.set_cons_succ]
        refine takeNo (i := 12) (d := 28) rfl rfl (by kernel_rfl) (by kernel_rfl) (by kernel_rfl) (fun _ _ _ h => h) (by rfl) (by assumption) ?_
        try simp only [List.setIfInBounds_toArray, List.set_cons_zero, List.set_cons_succ]
        refine takeNo (i := 13) (d := 29) rfl rfl (by kernel_rfl) (by kernel_rfl) (by kernel_rfl) (fun _ _ _ h => h) (by rfl) (by assumption) ?_
        try simp only [List.setIfInBounds_toArray, List.set_cons_zero, List.set_cons_succ]
        refine takeNo (i := 14) (d := 30) rfl rfl (by kernel_rfl) (by kernel_rfl) (by kernel_rfl) (fun _ _ _ h => h) (by rfl) (by assumption) ?_
        try simp only [List.setIfInBounds_toArray, List.set_cons_zero, List.set_cons_succ]
        refine takeNo (i := 15) (d := 31) rfl rfl (by kernel_rfl) (by kernel_rfl) (by kernel_rfl) (fun _ _ _ h => h) (by rfl) (by assumption) ?_
        try simp only [List.setIfInBounds_toArray, List.set_cons_zero, List.set_cons_succ]
        refine takeNo (i := 16) (d := 32) rfl rfl (by kernel_rfl) (by kernel_rfl) (by kernel_rfl) (fun _ _ _ h => h) (by rfl) (by assumption) ?_
        try simp only [List.setIfInBounds_toArray, List.set_cons_zero, List.set_cons_succ]
        refine takeNo (i := 17) (d := 33) rfl rfl (by kernel_rfl) (by kernel_rfl) (by kernel_rfl) (fun _ _ _ h => h) (by rfl) (by assumption) ?_
        try simp only [List.setIfInBounds_toArray, List.set_cons_zero, List.set_cons_succ]
        refine takeYes (i := 18) (d := 34) (v := ?_) rfl rfl (by kernel_rfl) (by kernel_rfl) (by kernel_rfl) (fun _ _ _ h => h) (by rfl) (by assumption) ?_ ?_
        rotate_left
        · intro w' hSw; (try dsimp only at hSw); go_simp; try exact rfl
        try simp only [List.setIfInBounds_toArray, List.set_cons_zero, List.set_cons_succ]
        refine takeYes (i := 19) (d := 35) (v := ?_) rfl rfl (by kernel_rfl) (by kernel_rfl) (by kernel_rfl) (fun _ _ _ h => h) (by rfl) (by assumption) ?_ ?_
        rotate_left
        · intro w' hSw; (try dsimp only at hSw); go_simp; try exact rfl
        try simp only [List.setIfInBounds_toArray, List.set_cons_zero, List.set_cons_succ]
        refine takeNo (i := 20) (d := 36) rfl rfl (by kernel_rfl) (by kernel_rfl) (by kernel_rfl) (fun _ _ _ h => h) (by rfl) (by assumption) ?_
        try simp only [List.setIfInBounds_toArray, List.set_cons_zero, List.set_cons_succ]
        refine takeNo (i := 21) (d := 37) rfl rfl (by kernel_rfl) (by kernel_rfl) (by kernel_rfl) (fun _ _ _ h => h) (by rfl) (by assumption) ?_
        try simp only [List.setIfInBounds_toArray, List.set_cons_zero, List.set_cons_succ]
        refine takeNo (i := 22) (d := 38) rfl rfl (by kernel_rfl) (by kernel_rfl) (by kernel_rfl) (fun _ _ _ h => h) (by rfl) (by assumption) ?_
        try simp only [List.setIfInBounds_toArray, List.set_cons_zero, List.set_cons_succ]
        refine wpAnyH_ready (rs := [23]) (by kernel_rfl) (by simp) ?_
        refine AllReadyH.cons rfl (fun K hK => ?_) AllReadyH.nil
        go_simp
        refine hK.out _ _ ?_ (fun hHeld23 => ?_)
        · (try dsimp only); refine ⟨?_, ?_⟩ <;> first | (go_simp; done) | (exact cell_later (by assumption) (by go_simp))
        clear hK
        refine takeNo (i := 24) (d := 40) rfl rfl (by kernel_rfl) (by kernel_rfl) (by kernel_rfl) (fun _ _ _ h => h) (by rfl) (by assumption) ?_
        try simp only [List.setIfInBounds_toArray, List.set_cons_zero, List.set_cons_succ]
        refine takeYes (i := 25) (d := 41) (v := ?_) rfl rfl (by kernel_rfl) (by kernel_rfl) (by kernel_rfl) (fun _ _ _ h => h) (by rfl) (by assumption) ?_ ?_
        rotate_left
        · intro w' hSw; (try dsimp only at hSw); go_simp; try exact rfl
        try simp only [List.setIfInBounds_toArray, List.set_cons_zero, List.set_cons_succ]
        refine wpAnyH_done (by kernel_rfl) ?_ _
        go_wp2
        go_returns
        refine ⟨ret_bool ?_, by repeat (first | exact Below.refl _ _ | refine Below.drew ?_ | refine Below.alloc ?_ (by first | (simp; done) | (simp; omega) | omega) _ | refine Below.setCell ?_ (by first | (simp; done) | (simp; omega) | omega) _ | refine bstep (by assumption) (by first | (simp; done) | (simp; omega) | omega) ?_)⟩
        unfold okSch
        rw [HE.out, HS.out, hf]
        simp
      rcases Nat.eq_zero_or_pos k with hk0 | hk0
      · subst hk0
        obtain rfl : q = 0 := by simpa using hq
        rw [Nat.zero_mul, Nat.add_zero] at c0 c1
        clear ha hw hL hx hq
        cases hin : inB x.cs.length 1 12 with
        | false =>
          go_wp2_with fail
          refine wp_region_held_drew (S := (fun w' => w'.cell? ⟨wo.heap.size, 0, none⟩ = some (.string x.s) ∧ w'.cell? ⟨wo.heap.size, 1, none⟩ = some (.slice ur x.cs.length cr))) (by kernel_rfl) ?_ (fun hHeld => ?_)
          · (try dsimp only); refine ⟨?_, ?_⟩ <;> first | (go_simp; done) | (exact cell_later (by assumption) (by go_simp))
          refine takeYes (i := 0) (d := 16) (v := ?_) rfl rfl (by kernel_rfl) (by kernel_rfl) (by kernel_rfl) (fun _ _ _ h => h) (by rfl) (by assumption) ?_ ?_
          rotate_left
          · intro w' hSw; (try dsimp only at hSw); go_simp; try exact rfl
          try simp only [List.setIfInBounds_toArray, List.set_cons_zero, List.set_cons_succ]
          refine takeYes (i := 1) (d := 17) (v := ?_) rfl rfl (by kernel_rfl) (by kernel_rfl) (by kernel_rfl) (fun _ _ _ h => h) (by rfl) (by assumption) ?_ ?_
          rotate_left
          · intro w' hSw; (try dsimp only at hSw); go_simp; try exact rfl
          try simp only [List.setIfInBounds_toArray, List.set_cons_zero, List.set_cons_succ]
          refine wpAnyH_ready (rs := [2]) (by kernel_rfl) (by simp) ?_
          refine AllReadyH.cons rfl (fun K hK => ?_) AllReadyH.nil
          go_simp
          go_at_call 67
          refine (specName_any x.s _ hxs).mono ?_
          rintro e w1 ⟨rfl, rfl⟩
          try go_wp2_with fail
          refine hK.out _ _ ?_ (fun hHeld2 => ?_)
          · (try dsimp only); refine ⟨?_, ?_⟩ <;> first | (go_simp; done) | (exact cell_later (by assumption) (by go_simp))
          clear hK
          refine takeYes (i := 3) (d := 19) (v := ?_) rfl rfl (by kernel_rfl) (by kernel_rfl) (by kernel_rfl) (fun _ _ _ h => h) (by rfl) (by assumption) ?_ ?_
          rotate_left
          · intro w' hSw; (try dsimp only at hSw); go_simp; try exact rfl
          try simp only [List.setIfInBounds_toArray, List.set_cons_zero, List.set_cons_succ]
          refine takeYes (i := 4) (d := 20) (v := ?_) rfl rfl (by kernel_rfl) (by kernel_rfl) (by kernel_rfl) (fun _ _ _ h => h) (by rfl) (by assumption) ?_ ?_
          rotate_left
          · intro w' hSw; (try dsimp only at hSw); go_simp; try exact rfl
          try simp only [List.setIfInBounds_toArray, List.set_cons_zero, List.set_cons_succ]
          refine takeYes (i := 5) (d := 21) (v := ?_) rfl rfl (by kernel_rfl) (by kernel_rfl) (by kernel_rfl) (fun _ _ _ h => h) (by rfl) (by assumption) ?_ ?_
          rotate_left
          · intro w' hSw; (try dsimp only at hSw); go_simp; try exact rfl
          try simp only [List.setIfInBounds_toArray, List.set_cons_zero, List.set_cons_succ]
          refine takeYes (i := 6) (d := 22) (v := ?_) rfl rfl (by kernel_rfl) (by kernel_rfl) (by kernel_rfl) (fun _ _ _ h => h) (by rfl) (by assumption) ?_ ?_
          rotate_left
          · intro w' hSw; (try dsimp only at hSw); go_simp; try exact rfl
          try simp only [List.setIfInBounds_toArray, List.set_cons_zero, List.set_cons_succ]
          refine takeYes (i := 7) (d := 23) (v := ?_) rfl rfl (by kernel_rfl) (by kernel_rfl) (by kernel_rfl) (fun _ _ _ h => h) (by rfl) (by assumption) ?_ ?_
          rotate_left
          · intro w' hSw; (try dsimp only at hSw); go_simp; try exact rfl
          try simp only [List.setIfInBounds_toArray, List.set_cons_zero, List.set_cons_succ]
          refine takeNo (i := 8) (d := 24) rfl rfl (by kernel_rfl) (by kernel_rfl) (by kernel_rfl) (fun _ _ _ h => h) (by rfl) (by assumption) ?_
          try simp only [List.setIfInBounds_toArray, List.set_cons_zero, List.set_cons_succ]
          refine takeNo (i := 9) (d := 25) rfl rfl (by kernel_rfl) (by kernel_rfl) (by kernel_rfl) (fun _ _ _ h => h) (by rfl) (by assumption) ?_
          try simp only [List.setIfInBounds_toArray, List.set_cons_zero, List.set_cons_succ]
          refine takeNo (i := 10) (d := 26) rfl rfl (by kernel_rfl) (by kernel_rfl) (by kernel_rfl) (fun _ _ _ h => h) (by rfl) (by assumption) ?_
          try simp only [List.setIfInBounds_toArray, List.set_cons_zero, List.set_cons_succ]
          refine takeNo (i := 11) (d := 27) rfl rfl (by kernel_rfl) (by kernel_rfl) (by kernel_rfl) (fun _ _ _ h => h) (by rfl) (by assumption) ?_
          try simp only [List.setIfInBounds_toArray, List.set_cons_zero, List.set_cons_succ]
          refine takeNo (i := 12) (d := 28) rfl rfl (by kernel_rfl) (by kernel_rfl) (by kernel_rfl) (fun _ _ _ h => h) (by rfl) (by assumption) ?_
          try simp only [List.setIfInBounds_toArray, List.set_cons_zero, List.set_cons_succ]
          refine takeNo (i := 13) (d := 29) rfl rfl (by kernel_rfl) (by kernel_rfl) (by kernel_rfl) (fun _ _ _ h => h) (by rfl) (by assumption) ?_
          try simp only [List.setIfInBounds_toArray, List.set_cons_zero, List.set_cons_succ]
          refine takeNo (i := 14) (d := 30) rfl rfl (by kernel_rfl) (by kernel_rfl) (by kernel_rfl) (fun _ _ _ h => h) (by rfl) (by assumption) ?_
          try simp only [List.setIfInBounds_toArray, List.set_cons_zero, List.set_cons_succ]
          refine takeNo (i := 15) (d := 31) rfl rfl (by kernel_rfl) (by kernel_rfl) (by kernel_rfl) (fun _ _ _ h => h) (by rfl) (by assumption) ?_
          try simp only [List.setIfInBounds_toArray, List.set_cons_zero, List.set_cons_succ]
          refine takeNo (i := 16) (d := 32) rfl rfl (by kernel_rfl) (by kernel_rfl) (by kernel_rfl) (fun _ _ _ h => h) (by rfl) (by assumption) ?_
          try simp only [List.setIfInBounds_toArray, List.set_cons_zero, List.set_cons_succ]
          refine takeYes (i := 17) (d := 33) (v := ?_) rfl rfl (by kernel_rfl) (by kernel_rfl) (by kernel_rfl) (fun _ _ _ h => h) (by rfl) (by assumption) ?_ ?_
          rotate_left
          · intro w' hSw; (try dsimp only at hSw); go_simp; try exact rfl
          try simp only [List.setIfInBounds_toArray, List.set_cons_zero, List.set_cons_succ]
          refine takeYes (i := 18) (d := 34) (v := ?_) rfl rfl (by kernel_rfl) (by kernel_rfl) (by kernel_rfl) (fun _ _ _ h => h) (by rfl) (by assumption) ?_ ?_
          rotate_left
          · intro w' hSw; (try dsimp only at hSw); go_simp; try exact rfl
          try simp only [List.setIfInBounds_toArray, List.set_cons_zero, List.set_cons_succ]
          refine takeYes (i := 19) (d := 35) (v := ?_) rfl rfl (by kernel_rfl) (by kernel_rfl) (by kernel_rfl) (fun _ _ _ h => h) (by rfl) (by assumption) ?_ ?_
          rotate_left
          · intro w' hSw; (try dsimp only at hSw); go_simp; try exact rfl
          try simp only [List.setIfInBounds_toArray, List.set_cons_zero, List.set_cons_succ]
          refine takeYes (i := 20) (d := 36) (v := ?_) rfl rfl (by kernel_rfl) (by kernel_rfl) (by kernel_rfl) (fun _ _ _ h => h) (by rfl) (by assumption) ?_ ?_
          rotate_left
          · intro w' hSw; (try dsimp only at hSw); go_simp; try exact rfl
          try simp only [List.setIfInBounds_toArray, List.set_cons_zero, List.set_cons_succ]
          refine takeYes (i := 21) (d := 37) (v := ?_) rfl rfl (by kernel_rfl) (by kernel_rfl) (by kernel_rfl) (fun _ _ _ h => h) (by rfl) (by assumption) ?_ ?_
          rotate_left
          · intro w' hSw; (try dsimp only at hSw); go_simp; try exact rfl
          try simp only [List.setIfInBounds_toArray, List.set_cons_zero, List.set_cons_succ]
          refine takeYes (i := 22) (d := 38) (v := ?_) rfl rfl (by kernel_rfl) (by kernel_rfl) (by kernel_rfl) (fun _ _ _ h => h) (by rfl) (by assumption) ?_ ?_
          rotate_left
          · intro w' hSw; (try dsimp only at hSw); go_simp; try exact rfl
          try simp only [List.setIfInBounds_toArray, List.set_cons_zero, List.set_cons_succ]
          refine wpAnyH_ready (rs := [23]) (by kernel_rfl) (by simp) ?_
          refine AllReadyH.cons rfl (fun K hK => ?_) AllReadyH.nil
          go_simp
          go_at_call 68
          refine (l01InN_any _ _ _ _).mono ?_
          rintro e w1 ⟨rfl, rfl⟩
          try go_wp2_with fail
          refine hK.out _ _ ?_ (fun hHeld23 => ?_)
          · (try dsimp only); refine ⟨?_, ?_⟩ <;> first | (go_simp; done) | (exact cell_later (by assumption) (by go_simp))
          clear hK
          refine takeYes (i := 24) (d := 40) (v := ?_) rfl rfl (by kernel_rfl) (by kernel_rfl) (by kernel_rfl) (fun _ _ _ h => h) (by rfl) (by assumption) ?_ ?_
          rotate_left
          · intro w' hSw; (try dsimp only at hSw); go_simp; try exact rfl
          try simp only [List.setIfInBounds_toArray, List.set_cons_zero, List.set_cons_succ]
          refine takeYes (i := 25) (d := 41) (v := ?_) rfl rfl (by kernel_rfl) (by kernel_rfl) (by kernel_rfl) (fun _ _ _ h => h) (by rfl) (by assumption) ?_ ?_
          rotate_left
          · intro w' hSw; (try dsimp only at hSw); go_simp; try exact rfl
          try simp only [List.setIfInBounds_toArray, List.set_cons_zero, List.set_cons_succ]
          refine wpAnyH_done (by kernel_rfl) ?_ _
          go_wp2
          go_returns
          refine ⟨ret_bool ?_, by repeat (first | exact Below.refl _ _ | refine Below.drew ?_ | refine Below.alloc ?_ (by first | (simp; done) | (simp; omega) | omega) _ | refine Below.setCell ?_ (by first | (simp; done) | (simp; omega) | omega) _ | refine bstep (by assumption) (by first | (simp; done) | (simp; omega) | omega) ?_)⟩
          unfold okSch
          rw [HE.out, HS.out, okCols_no hin]
          simp
        | true =>
          go_wp2_with fail
          refine wp_region_held_drew (S := (fun w' => w'.cell? ⟨wo.heap.size, 0, none⟩ = some (.string x.s) ∧ w'.cell? ⟨wo.heap.size, 1, none⟩ = some (.slice ur x.cs.length cr))) (by kernel_rfl) ?_ (fun hHeld => ?_)
          · (try dsimp only); refine ⟨?_, ?_⟩ <;> first | (go_simp; done) | (exact cell_later (by assumption) (by go_simp))
          refine takeYes (i := 0) (d := 16) (v := ?_) rfl rfl (by kernel_rfl) (by kernel_rfl) (by kernel_rfl) (fun _ _ _ h => h) (by rfl) (by assumption) ?_ ?_
          rotate_left
          · intro w' hSw; (try dsimp only at hSw); go_simp; try exact rfl
          try simp only [List.setIfInBounds_toArray, List.set_cons_zero, List.set_cons_succ]
          refine takeYes (i := 1) (d := 17) (v := ?_) rfl rfl (by kernel_rfl) (by kernel_rfl) (by kernel_rfl) (fun _ _ _ h => h) (by rfl) (by assumption) ?_ ?_
          rotate_left
          · intro w' hSw; (try dsimp only at hSw); go_simp; try exact rfl
          try simp only [List.setIfInBounds_toArray, List.set_cons_zero, List.set_cons_succ]
          refine wpAnyH_ready (rs := [2]) (by kernel_rfl) (by simp) ?_
          refine AllReadyH.cons rfl (fun K hK => ?_) AllReadyH.nil
          go_simp
          go_at_call 67
          refine (specName_any x.s _ hxs).mono ?_
          rintro e w1 ⟨rfl, rfl⟩
          try go_wp2_with fail
          refine hK.out _ _ ?_ (fun hHeld2 => ?_)
          · (try dsimp only); refine ⟨?_, ?_⟩ <;> first | (go_simp; done) | (exact cell_later (by assumption) (by go_simp))
          clear hK
          refine takeYes (i := 3) (d := 19) (v := ?_) rfl rfl (by kernel_rfl) (by kernel_rfl) (by kernel_rfl) (fun _ _ _ h => h) (by rfl) (by assumption) ?_ ?_
          rotate_left
          · intro w' hSw; (try dsimp only at hSw); go_simp; try exact rfl
          try simp only [List.setIfInBounds_toArray, List.set_cons_zero, List.set_cons_succ]
          refine takeYes (i := 4) (d := 20) (v := ?_) rfl rfl (by kernel_rfl) (by kernel_rfl) (by kernel_rfl) (fun _ _ _ h => h) (by rfl) (by assumption) ?_ ?_
          rotate_left
          · intro w' hSw; (try dsimp only at hSw); go_simp; try exact rfl
          try simp only [List.setIfInBounds_toArray, List.set_cons_zero, List.set_cons_succ]
          refine takeYes (i := 5) (d := 21) (v := ?_) rfl rfl (by kernel_rfl) (by kernel_rfl) (by kernel_rfl) (fun _ _ _ h => h) (by rfl) (by assumption) ?_ ?_
          rotate_left
          · intro w' hSw; (try dsimp only at hSw); go_simp; try exact rfl
          try simp only [List.setIfInBounds_toArray, List.set_cons_zero, List.set_cons_succ]
          refine takeYes (i := 6) (d := 22) (v := ?_) rfl rfl (by kernel_rfl) (by kernel_rfl) (by kernel_rfl) (fun _ _ _ h => h) (by rfl) (by assumption) ?_ ?_
          rotate_left
          · intro w' hSw; (try dsimp only at hSw); go_simp; try exact rfl
          try simp only [List.setIfInBounds_toArray, List.set_cons_zero, List.set_cons_succ]
          refine takeYes (i := 7) (d := 23) (v := ?_) rfl rfl (by kernel_rfl) (by kernel_rfl) (by kernel_rfl) (fun _ _ _ h => h) (by rfl) (by assumption) ?_ ?_
          rotate_left
          · intro w' hSw; (try dsimp only at hSw); go_simp; try exact rfl
          try simp only [List.setIfInBounds_toArray, List.set_cons_zero, List.set_cons_succ]
          refine takeNo (i := 8) (d := 24) rfl rfl (by kernel_rfl) (by kernel_rfl) (by kernel_rfl) (fun _ _ _ h => h) (by rfl) (by assumption) ?_
          try simp only [List.setIfInBounds_toArray, List.set_cons_zero, List.set_cons_succ]
          refine takeNo (i := 9) (d := 25) rfl rfl (by kernel_rfl) (by kernel_rfl) (by kernel_rfl) (fun _ _ _ h => h) (by rfl) (by assumption) ?_
          try simp only [List.setIfInBounds_toArray, List.set_cons_zero, List.set_cons_succ]
          refine takeNo (i := 10) (d := 26) rfl rfl (by kernel_rfl) (by kernel_rfl) (by kernel_rfl) (fun _ _ _ h => h) (by rfl) (by assumption) ?_
          try simp only [List.setIfInBounds_toArray, List.set_cons_zero, List.set_cons_succ]
          refine takeNo (i := 11) (d := 27) rfl rfl (by kernel_rfl) (by kernel_rfl) (by kernel_rfl) (fun _ _ _ h => h) (by rfl) (by assumption) ?_
          try simp only [List.setIfInBounds_toArray, List.set_cons_zero, List.set_cons_succ]
          refine takeNo (i := 12) (d := 28) rfl rfl (by kernel_rfl) (by kernel_rfl) (by kernel_rfl) (fun _ _ _ h => h) (by rfl) (by assumption) ?_
          try simp only [List.setIfInBounds_toArray, List.set_cons_zero, List.set_cons_succ]
          refine takeNo (i := 13) (d := 29) rfl rfl (by kernel_rfl) (by kernel_rfl) (by kernel_rfl) (fun _ _ _ h => h) (by rfl) (by assumption) ?_
          try simp only [List.setIfInBounds_toArray, List.set_cons_zero, List.set_cons_succ]
          refine takeNo (i := 14) (d := 30) rfl rfl (by kernel_rfl) (by kernel_rfl) (by kernel_rfl) (fun _ _ _ h => h) (by rfl) (by assumption) ?_
          try simp only [List.setIfInBounds_toArray, List.set_cons_zero, List.set_cons_succ]
          refine takeNo (i := 15) (d := 31) rfl rfl (by kernel_rfl) (by kernel_rfl) (by kernel_rfl) (fun _ _ _ h => h) (by rfl) (by assumption) ?_
          try simp only [List.setIfInBounds_toArray, List.set_cons_zero, List.set_cons_succ]
          refine takeNo (i := 16) (d := 32) rfl rfl (by kernel_rfl) (by kernel_rfl) (by kernel_rfl) (fun _ _ _ h => h) (by rfl) (by assumption) ?_
          try simp only [List.setIfInBounds_toArray, List.set_cons_zero, List.set_cons_succ]
          refine takeYes (i := 17) (d := 33) (v := ?_) rfl rfl (by kernel_rfl) (by kernel_rfl) (by kernel_rfl) (fun _ _ _ h => h) (by rfl) (by assumption) ?_ ?_
          rotate_left
          · intro w' hSw; (try dsimp only at hSw); go_simp; try exact rfl
          try simp only [List.setIfInBounds_toArray, List.set_cons_zero, List.set_cons_succ]
          refine takeYes (i := 18) (d := 34) (v := ?_) rfl rfl (by kernel_rfl) (by kernel_rfl) (by kernel_rfl) (fun _ _ _ h => h) (by rfl) (by assumption) ?_ ?_
          rotate_left
          · intro w' hSw; (try dsimp only at hSw); go_simp; try exact rfl
          try simp only [List.setIfInBounds_toArray, List.set_cons_zero, List.set_cons_succ]
          refine takeYes (i := 19) (d := 35) (v := ?_) rfl rfl (by kernel_rfl) (by kernel_rfl) (by kernel_rfl) (fun _ _ _ h => h) (by rfl) (by assumption) ?_ ?_
          rotate_left
          · intro w' hSw; (try dsimp only at hSw); go_simp; try exact rfl
          try simp only [List.setIfInBounds_toArray, List.set_cons_zero, List.set_cons_succ]
          refine takeYes (i := 20) (d := 36) (v := ?_) rfl rfl (by kernel_rfl) (by kernel_rfl) (by kernel_rfl) (fun _ _ _ h => h) (by rfl) (by assumption) ?_ ?_
          rotate_left
          · intro w' hSw; (try dsimp only at hSw); go_simp; try exact rfl
          try simp only [List.setIfInBounds_toArray, List.set_cons_zero, List.set_cons_succ]
          refine takeYes (i := 21) (d := 37) (v := ?_) rfl rfl (by kernel_rfl) (by kernel_rfl) (by kernel_rfl) (fun _ _ _ h => h) (by rfl) (by assumption) ?_ ?_
          rotate_left
          · intro w' hSw; (try dsimp only at hSw); go_simp; try exact rfl
          try simp only [List.setIfInBounds_toArray, List.set_cons_zero, List.set_cons_succ]
          refine takeYes (i := 22) (d := 38) (v := ?_) rfl rfl (by kernel_rfl) (by kernel_rfl) (by kernel_rfl) (fun _ _ _ h => h) (by rfl) (by assumption) ?_ ?_
          rotate_left
          · intro w' hSw; (try dsimp only at hSw); go_simp; try exact rfl
          try simp only [List.setIfInBounds_toArray, List.set_cons_zero, List.set_cons_succ]
          refine wpAnyH_ready (rs := [23]) (by kernel_rfl) (by simp) ?_
          refine AllReadyH.cons rfl (fun K hK => ?_) AllReadyH.nil
          go_simp
          go_at_call 68
          refine (l01InN_any _ _ _ _).mono ?_
          rintro e w1 ⟨rfl, rfl⟩
          try go_wp2_with fail
          refine hK.out _ _ ?_ (fun hHeld23 => ?_)
          · (try dsimp only); refine ⟨?_, ?_⟩ <;> first | (go_simp; done) | (exact cell_later (by assumption) (by go_simp))
          clear hK
          refine takeYes (i := 24) (d := 40) (v := ?_) rfl rfl (by kernel_rfl) (by kernel_rfl) (by kernel_rfl) (fun _ _ _ h => h) (by rfl) (by assumption) ?_ ?_
          rotate_left
          · intro w' hSw; (try dsimp only at hSw); go_simp; try exact rfl
          try simp only [List.setIfInBounds_toArray, List.set_cons_zero, List.set_cons_succ]
          refine takeYes (i := 25) (d := 41) (v := ?_) rfl rfl (by kernel_rfl) (by kernel_rfl) (by kernel_rfl) (fun _ _ _ h => h) (by rfl) (by assumption) ?_ ?_
          rotate_left
          · intro w' hSw; (try dsimp only at hSw); go_simp; try exact rfl
          try simp only [List.setIfInBounds_toArray, List.set_cons_zero, List.set_cons_succ]
          refine wpAnyH_done (by kernel_rfl) ?_ _
          go_wp2_with fail
          have hb5 : Below wo.heap.size wo (wo.alloc (.cells #[.string x.s, .slice ur x.cs.length cr] 97)).drew := by repeat (first | (with_reducible exact Below.refl _ _) | (with_reducible refine Below.drew ?_) | (with_reducible refine Below.alloc ?_ ?hh _; case hh => first | (simp; done) | (simp; omega) | omega) | (with_reducible refine Below.setCell ?_ ?hh _; case hh => first | (simp; done) | (simp; omega) | omega) | refine bstep (by assumption) (by first | (simp; done) | (simp; omega) | omega) ?_)
          have q1 : ((wo.alloc (.cells #[.string x.s, .slice ur x.cs.length cr] 97)).drew).cell? ⟨wo.heap.size, 1, none⟩ = some (.slice ur x.cs.length cr) := hHeld23.2
          have hs5 : wo.heap.size < ((wo.alloc (.cells #[.string x.s, .slice ur x.cs.length cr] 97)).drew).heap.size := by simp
          clear hHeld hHeld2 hHeld23
          generalize (wo.alloc (.cells #[.string x.s, .slice ur x.cs.length cr] 97)).drew = w5 at hb5 q1 hs5 ⊢
          have hR5 := hR.below hb5
          have hbw5 : Below w.heap.size w w5 := hb.trans (hb5.mono hzb)
          go_loopw [5] (fun i wi => ∃ n : Nat, n ≤ x.cs.length ∧ i = .int .i64 n ∧ Below w5.heap.size w5 wi ∧ colsB [] x.cs = colsB (x.cs.take n) (x.cs.drop n)) (fun i _ => x.cs.length - (intOf i).toNat)
          case atStart => exact ⟨0, Nat.zero_le _, rfl, Below.refl _ _, by simp⟩
          case round =>
            obtain ⟨n, hn, rfl, hbi, heq2⟩ := hrel
            have HE2 : Hid (colsB [] x.cs = colsB (x.cs.take n) (x.cs.drop n)) := heq2
            clear heq2
            have hzi := hbi.size
            have qi : wr.cell? ⟨wo.heap.size, 1, none⟩ = some (.slice ur x.cs.length cr) := (hbi.cell (p := ⟨wo.heap.size, 1, none⟩) hs5).trans q1
            have hsi : wo.heap.size < wr.heap.size := by omega
            have hbwi : Below w.heap.size w wr := hbw5.trans (hbi.mono hbw5.size)
            by_cases hnl : n < x.cs.length
            · have hRi := hR5.below hbi
              obtain ⟨m, hm⟩ : ∃ m, x.cs[n]? = some m := ⟨x.cs[n], by simp [hnl]⟩
              obtain ⟨g', hcut⟩ := hRi.cut hn
              obtain ⟨a', c', bc, oc, e, _, _, _, h4⟩ := hRi.pick
              obtain ⟨rfl, _, rfl⟩ : ur = a' ∧ x.cs.length = x.cs.length ∧ cr = c' := by injection e with e1 e2 e3; exact ⟨e1, e2, e3⟩
              obtain ⟨rfl, hbc, _, hcell⟩ := h4 n hnl
              have hcm1 := hcell n m hm
              have hms := hxw m (List.mem_of_getElem? hm)
              have HS2 : Hid (colsB (x.cs.take n) (x.cs.drop n) = (nameB m && !hasS (x.cs.take n) m && colsB (x.cs.take (n + 1)) (x.cs.drop (n + 1)))) := colsB_step hm
              have HC : Hid (okCols x.cs = colsB [] x.cs) := okCols_cols hin
              have hncr : n ≤ cr := by omega
              clear h4 hcell hm hRi hR5 hR hxw q1 hin e
              by_cases hnm2 : nameB m = true
              rotate_left
              · have hf2 : nameB m = false := by simpa using hnm2
                have HF2 : Hid (nameB m = false) := hf2
                go_wp2_with fail
                refine wp_region_held_drew (S := (fun w' => w'.cell? ⟨wo.heap.size, 1, none⟩ = some (.slice (some ⟨bc, oc, none⟩) x.cs.length cr) ∧ w'.cell? ⟨bc, oc + n, none⟩ = some (.string m))) (by kernel_rfl) ?_ (fun hHeld => ?_)
                · (try dsimp only); refine ⟨?_, ?_⟩ <;> first | (go_simp; done) | (exact cell_later (by assumption) (by go_simp))
                refine takeYes (i := 0) (d := 49) (v := ?_) rfl rfl (by kernel_rfl) (by kernel_rfl) (by kernel_rfl) (fun _ _ _ h => h) (by rfl) (by assumption) ?_ ?_
                rotate_left
                · intro w' hSw; (try dsimp only at hSw); go_simp; try exact rfl
                try simp only [List.setIfInBounds_toArray, List.set_cons_zero, List.set_cons_succ]
                refine takeYes (i := 1) (d := 50) (v := ?_) rfl rfl (by kernel_rfl) (by kernel_rfl) (by kernel_rfl) (fun _ _ _ h => h) (by rfl) (by assumption) ?_ ?_
                rotate_left
                · intro w' hSw; (try dsimp only at hSw); go_simp; try exact rfl
                try simp only [List.setIfInBounds_toArray, List.set_cons_zero, List.set_cons_succ]
                refine takeYes (i := 2) (d := 51) (v := ?_) rfl rfl (by kernel_rfl) (by kernel_rfl) (by kernel_rfl) (fun _ _ _ h => h) (by rfl) (by assumption) ?_ ?_
                rotate_left
                · intro w' hSw; (try dsimp only at hSw); go_simp; try exact rfl
                try simp only [List.setIfInBounds_toArray, List.set_cons_zero, List.set_cons_succ]
                refine takeYes (i := 3) (d := 52) (v := ?_) rfl rfl (by kernel_rfl) (by kernel_rfl) (by kernel_rfl) (fun _ _ _ h => h) (by rfl) (by assumption) ?_ ?_
                rotate_left
                · intro w' hSw; (try dsimp only at hSw); go_simp; try exact rfl
                try simp only [List.setIfInBounds_toArray, List.set_cons_zero, List.set_cons_succ]
                refine takeYes (i := 4) (d := 53) (v := ?_) rfl rfl (by kernel_rfl) (by kernel_rfl) (by kernel_rfl) (fun _ _ _ h => h) (by rfl) (by assumption) ?_ ?_
                rotate_left
                · intro w' hSw; (try dsimp only at hSw); go_simp; try exact rfl
                try simp only [List.setIfInBounds_toArray, List.set_cons_zero, List.set_cons_succ]
                refine wpAnyH_ready (rs := [5]) (by kernel_rfl) (by simp) ?_
                refine AllReadyH.cons rfl (fun K hK => ?_) AllReadyH.nil
                go_simp
                go_at_call 67
                refine (specName_any m _ hms).mono ?_
                rintro e w1 ⟨rfl, rfl⟩
                try go_wp2_with fail
                refine hK.out _ _ ?_ (fun hHeld5 => ?_)
                · (try dsimp only); refine ⟨?_, ?_⟩ <;> first | (go_simp; done) | (exact cell_later (by assumption) (by go_simp))
                clear hK
                refine takeYes (i := 6) (d := 55) (v := ?_) rfl rfl (by kernel_rfl) (by kernel_rfl) (by kernel_rfl) (fun _ _ _ h => h) (by rfl) (by assumption) ?_ ?_
                rotate_left
                · intro w' hSw; (try dsimp only at hSw); go_simp; try exact rfl
                try simp only [List.setIfInBounds_toArray, List.set_cons_zero, List.set_cons_succ]
                refine takeYes (i := 7) (d := 56) (v := ?_) rfl rfl (by kernel_rfl) (by kernel_rfl) (by kernel_rfl) (fun _ _ _ h => h) (by rfl) (by assumption) ?_ ?_
                rotate_left
                · intro w' hSw; (try dsimp only at hSw); go_simp; try exact rfl
                try simp only [List.setIfInBounds_toArray, List.set_cons_zero, List.set_cons_succ]
                refine takeNo (i := 8) (d := 57) rfl rfl (by kernel_rfl) (by kernel_rfl) (by kernel_rfl) (fun _ _ _ h => h) (by rfl) (by assumption) ?_
                try simp only [List.setIfInBounds_toArray, List.set_cons_zero, List.set_cons_succ]
                refine takeNo (i := 9) (d := 58) rfl rfl (by kernel_rfl) (by kernel_rfl) (by kernel_rfl) (fun _ _ _ h => h) (by rfl) (by assumption) ?_
                try simp only [List.setIfInBounds_toArray, List.set_cons_zero, List.set_cons_succ]
                refine takeNo (i := 10) (d := 59) rfl rfl (by kernel_rfl) (by kernel_rfl) (by kernel_rfl) (fun _ _ _ h => h) (by rfl) (by assumption) ?_
                try simp only [List.setIfInBounds_toArray, List.set_cons_zero, List.set_cons_succ]
                refine takeNo (i := 11) (d := 60) rfl rfl (by kernel_rfl) (by kernel_rfl) (by kernel_rfl) (fun _ _ _ h => h) (by rfl) (by assumption) ?_
                try simp only [List.setIfInBounds_toArray, List.set_cons_zero, List.set_cons_succ]
                refine takeNo (i := 12) (d := 61) rfl rfl (by kernel_rfl) (by kernel_rfl) (by kernel_rfl) (fun _ _ _ h => h) (by rfl) (by assumption) ?_
                try simp only [List.setIfInBounds_toArray, List.set_cons_zero, List.set_cons_succ]
                refine takeNo (i := 13) (d := 62) rfl rfl (by kernel_rfl) (by kernel_rfl) (by kernel_rfl) (fun _ _ _ h => h) (by rfl) (by assumption) ?_
                try simp only [List.setIfInBounds_toArray, List.set_cons_zero, List.set_cons_succ]
                refine takeNo (i := 14) (d := 63) rfl rfl (by kernel_rfl) (by kernel_rfl) (by kernel_rfl) (fun _ _ _ h => h) (by rfl) (by assumption) ?_
                try simp only [List.setIfInBounds_toArray, List.set_cons_zero, List.set_cons_succ]
                refine takeNo (i := 15) (d := 64) rfl rfl (by kernel_rfl) (by kernel_rfl) (by kernel_rfl) (fun _ _ _ h => h) (by rfl) (by assumption) ?_
                try simp only [List.setIfInBounds_toArray, List.set_cons_zero, List.set_cons_succ]
                refine takeNo (i := 16) (d := 65) rfl rfl (by kernel_rfl) (by kernel_rfl) (by kernel_rfl) (fun _ _ _ h => h) (by rfl) (by assumption) ?_
                try simp only [List.setIfInBounds_toArray, List.set_cons_zero, List.set_cons_succ]
                refine wpAnyH_ready (rs := [17]) (by kernel_rfl) (by simp) ?_
                refine AllReadyH.cons rfl (fun K hK => ?_) AllReadyH.nil
                go_simp
                refine hK.out _ _ ?_ (fun hHeld17 => ?_)
                · (try dsimp only); refine ⟨?_, ?_⟩ <;> first | (go_simp; done) | (exact cell_later (by assumption) (by go_simp))
                clear hK
                refine takeYes (i := 18) (d := 67) (v := ?_) rfl rfl (by kernel_rfl) (by kernel_rfl) (by kernel_rfl) (fun _ _ _ h => h) (by rfl) (by assumption) ?_ ?_
                rotate_left
                · intro w' hSw; (try dsimp only at hSw); go_simp; try exact rfl
                try simp only [List.setIfInBounds_toArray, List.set_cons_zero, List.set_cons_succ]
                refine wpAnyH_done (by kernel_rfl) ?_ _
                go_wp2
                go_returns
                refine ⟨ret_bool ?_, by repeat (first | exact Below.refl _ _ | refine Below.drew ?_ | refine Below.alloc ?_ (by first | (simp; done) | (simp; omega) | omega) _ | refine Below.setCell ?_ (by first | (simp; done) | (simp; omega) | omega) _ | refine bstep (by assumption) (by first | (simp; done) | (simp; omega) | omega) ?_)⟩
                unfold okSch
                rw [HE.out, HS.out, HC.out, HE2.out, HS2.out, HF2.out]
                simp
              have HN2 : Hid (nameB m = true) := hnm2
              obtain ⟨hs, HH⟩ : ∃ hs, Hid (hasS (x.cs.take n) m = hs) := ⟨_, rfl⟩
              cases hs with
              | true =>
                go_wp2_with fail
                refine wp_region_held_drew (S := (fun w' => w'.cell? ⟨wo.heap.size, 1, none⟩ = some (.slice (some ⟨bc, oc, none⟩) x.cs.length cr) ∧ w'.cell? ⟨bc, oc + n, none⟩ = some (.string m))) (by kernel_rfl) ?_ (fun hHeld => ?_)
                · (try dsimp only); refine ⟨?_, ?_⟩ <;> first | (go_simp; done) | (exact cell_later (by assumption) (by go_simp))
                refine takeYes (i := 0) (d := 49) (v := ?_) rfl rfl (by kernel_rfl) (by kernel_rfl) (by kernel_rfl) (fun _ _ _ h => h) (by rfl) (by assumption) ?_ ?_
                rotate_left
                · intro w' hSw; (try dsimp only at hSw); go_simp; try exact rfl
                try simp only [List.setIfInBounds_toArray, List.set_cons_zero, List.set_cons_succ]
                refine takeYes (i := 1) (d := 50) (v := ?_) rfl rfl (by kernel_rfl) (by kernel_rfl) (by kernel_rfl) (fun _ _ _ h => h) (by rfl) (by assumption) ?_ ?_
                rotate_left
                · intro w' hSw; (try dsimp only at hSw); go_simp; try exact rfl
                try simp only [List.setIfInBounds_toArray, List.set_cons_zero, List.set_cons_succ]
                refine takeYes (i := 2) (d := 51) (v := ?_) rfl rfl (by kernel_rfl) (by kernel_rfl) (by kernel_rfl) (fun _ _ _ h => h) (by rfl) (by assumption) ?_ ?_
                rotate_left
                · intro w' hSw; (try dsimp only at hSw); go_simp; try exact rfl
                try simp only [List.setIfInBounds_toArray, List.set_cons_zero, List.set_cons_succ]
                refine takeYes (i := 3) (d := 52) (v := ?_) rfl rfl (by kernel_rfl) (by kernel_rfl) (by kernel_rfl) (fun _ _ _ h => h) (by rfl) (by assumption) ?_ ?_
                rotate_left
                · intro w' hSw; (try dsimp only at hSw); go_simp; try exact rfl
                try simp only [List.setIfInBounds_toArray, List.set_cons_zero, List.set_cons_succ]
                refine takeYes (i := 4) (d := 53) (v := ?_) rfl rfl (by kernel_rfl) (by kernel_rfl) (by kernel_rfl) (fun _ _ _ h => h) (by rfl) (by assumption) ?_ ?_
                rotate_left
                · intro w' hSw; (try dsimp only at hSw); go_simp; try exact rfl
                try simp only [List.setIfInBounds_toArray, List.set_cons_zero, List.set_cons_succ]
                refine wpAnyH_ready (rs := [5]) (by kernel_rfl) (by simp) ?_
                refine AllReadyH.cons rfl (fun K hK => ?_) AllReadyH.nil
                go_simp
                go_at_call 67
                refine (specName_any m _ hms).mono ?_
                rintro e w1 ⟨rfl, rfl⟩
                try go_wp2_with fail
                refine hK.out _ _ ?_ (fun hHeld5 => ?_)
                · (try dsimp only); refine ⟨?_, ?_⟩ <;> first | (go_simp; done) | (exact cell_later (by assumption) (by go_simp))
                clear hK
                refine takeYes (i := 6) (d := 55) (v := ?_) rfl rfl (by kernel_rfl) (by kernel_rfl) (by kernel_rfl) (fun _ _ _ h => h) (by rfl) (by assumption) ?_ ?_
                rotate_left
                · intro w' hSw; (try dsimp only at hSw); go_simp; try exact rfl
                try simp only [List.setIfInBounds_toArray, List.set_cons_zero, List.set_cons_succ]
                refine takeYes (i := 7) (d := 56) (v := ?_) rfl rfl (by kernel_rfl) (by kernel_rfl) (by kernel_rfl) (fun _ _ _ h => h) (by rfl) (by assumption) ?_ ?_
                rotate_left
                · intro w' hSw; (try dsimp only at hSw); go_simp; try exact rfl
                try simp only [List.setIfInBounds_toArray, List.set_cons_zero, List.set_cons_succ]
                refine takeYes (i := 8) (d := 57) (v := ?_) rfl rfl (by kernel_rfl) (by kernel_rfl) (by kernel_rfl) (fun _ _ _ h => h) (by rfl) (by assumption) ?_ ?_
                rotate_left
                · intro w' hSw; (try dsimp only at hSw); go_simp; try exact rfl
                try simp only [List.setIfInBounds_toArray, List.set_cons_zero, List.set_cons_succ]
                refine takeYes (i := 9) (d := 58) (v := ?_) rfl rfl (by kernel_rfl) (by kernel_rfl) (by kernel_rfl) (fun _ _ _ h => h) (by rfl) (by assumption) ?_ ?_
                rotate_left
                · intro w' hSw; (try dsimp only at hSw); go_simp; try exact rfl
                try simp only [List.setIfInBounds_toArray, List.set_cons_zero, List.set_cons_succ]
                refine takeYes (i := 10) (d := 59) (v := ?_) rfl rfl (by kernel_rfl) (by kernel_rfl) (by kernel_rfl) (fun _ _ _ h => h) (by rfl) (by assumption) ?_ ?_
                rotate_left
                · intro w' hSw; (try dsimp only at hSw); go_simp; try exact rfl
                try simp only [List.setIfInBounds_toArray, List.set_cons_zero, List.set_cons_succ]
                refine takeYes (i := 11) (d := 60) (v := ?_) rfl rfl (by kernel_rfl) (by kernel_rfl) (by kernel_rfl) (fun _ _ _ h => h) (by rfl) (by assumption) ?_ ?_
                rotate_left
                · intro w' hSw; (try dsimp only at hSw); go_simp; try exact rfl
                try simp only [List.setIfInBounds_toArray, List.set_cons_zero, List.set_cons_succ]
                refine takeYes (i := 12) (d := 61) (v := ?_) rfl rfl (by kernel_rfl) (by kernel_rfl) (by kernel_rfl) (fun _ _ _ h => h) (by rfl) (by assumption) ?_ ?_
                rotate_left
                · intro w' hSw; (try dsimp only at hSw); go_simp; try exact rfl
                try simp only [List.setIfInBounds_toArray, List.set_cons_zero, List.set_cons_succ]
                refine takeYes (i := 13) (d := 62) (v := ?_) rfl rfl (by kernel_rfl) (by kernel_rfl) (by kernel_rfl) (fun _ _ _ h => h) (by rfl) (by assumption) ?_ ?_
                rotate_left
                · intro w' hSw; (try dsimp only at hSw); go_simp; try exact rfl
                try simp only [List.setIfInBounds_toArray, List.set_cons_zero, List.set_cons_succ]
                refine takeYes (i := 14) (d := 63) (v := ?_) rfl rfl (by kernel_rfl) (by kernel_rfl) (by kernel_rfl) (fun _ _ _ h => h) (by rfl) (by assumption) ?_ ?_
                rotate_left
                · intro w' hSw; (try dsimp only at hSw); go_simp; try exact rfl
                try simp only [List.setIfInBounds_toArray, List.set_cons_zero, List.set_cons_succ]
                refine takeYes (i := 15) (d := 64) (v := ?_) rfl rfl (by kernel_rfl) (by kernel_rfl) (by kernel_rfl) (fun _ _ _ h => h) (by rfl) (by assumption) ?_ ?_
                rotate_left
                · intro w' hSw; (try dsimp only at hSw); go_simp; try exact rfl
                try simp only [List.setIfInBounds_toArray, List.set_cons_zero, List.set_cons_succ]
                refine takeYes (i := 16) (d := 65) (v := ?_) rfl rfl (by kernel_rfl) (by kernel_rfl) (by kernel_rfl) (fun _ _ _ h => h) (by rfl) (by assumption) ?_ ?_
                rotate_left
                · intro w' hSw; (try dsimp only at hSw); go_simp; try exact rfl
                try simp only [List.setIfInBounds_toArray, List.set_cons_zero, List.set_cons_succ]
                refine wpAnyH_ready (rs := [17]) (by kernel_rfl) (by simp) ?_
                refine AllReadyH.cons rfl (fun K hK => ?_) AllReadyH.nil
                go_simp
                go_at_call 111
                refine Calls.mono (l03HasF_any _ _ g' m _ (hcut.below (by repeat (first | exact Below.refl _ _ | refine Below.drew ?_ | refine Below.alloc ?_ (by first | (simp; done) | (simp; omega) | omega) _ | refine Below.setCell ?_ (by first | (simp; done) | (simp; omega) | omega) _ | refine bstep (by assumption) (by first | (simp; done) | (simp; omega) | omega) ?_)))) ?_
                rw [HH.out]
                rintro e w1 ⟨rfl, rfl⟩
                try go_wp2_with fail
                refine hK.out _ _ ?_ (fun hHeld17 => ?_)
                · (try dsimp only); refine ⟨?_, ?_⟩ <;> first | (go_simp; done) | (exact cell_later (by assumption) (by go_simp))
                clear hK
                refine takeYes (i := 18) (d := 67) (v := ?_) rfl rfl (by kernel_rfl) (by kernel_rfl) (by kernel_rfl) (fun _ _ _ h => h) (by rfl) (by assumption) ?_ ?_
                rotate_left
                · intro w' hSw; (try dsimp only at hSw); go_simp; try exact rfl
                try simp only [List.setIfInBounds_toArray, List.set_cons_zero, List.set_cons_succ]
                refine wpAnyH_done (by kernel_rfl) ?_ _
                go_wp2
                go_returns
                refine ⟨ret_bool ?_, by repeat (first | exact Below.refl _ _ | refine Below.drew ?_ | refine Below.alloc ?_ (by first | (simp; done) | (simp; omega) | omega) _ | refine Below.setCell ?_ (by first | (simp; done) | (simp; omega) | omega) _ | refine bstep (by assumption) (by first | (simp; done) | (simp; omega) | omega) ?_)⟩
                unfold okSch
                rw [HE.out, HS.out, HC.out, HE2.out, HS2.out, HN2.out, HH.out]
                simp
              | false =>
                go_wp2_with fail
                refine wp_region_held_drew (S := (fun w' => w'.cell? ⟨wo.heap.size, 1, none⟩ = some (.slice (some ⟨bc, oc, none⟩) x.cs.length cr) ∧ w'.cell? ⟨bc, oc + n, none⟩ = some (.string m))) (by kernel_rfl) ?_ (fun hHeld => ?_)
                · (try dsimp only); refine ⟨?_, ?_⟩ <;> first | (go_simp; done) | (exact cell_later (by assumption) (by go_simp))
                refine takeYes (i := 0) (d := 49) (v := ?_) rfl rfl (by kernel_rfl) (by kernel_rfl) (by kernel_rfl) (fun _ _ _ h => h) (by rfl) (by assumption) ?_ ?_
                rotate_left
                · intro w' hSw; (try dsimp only at hSw); go_simp; try exact rfl
                try simp only [List.setIfInBounds_toArray, List.set_cons_zero, List.set_cons_succ]
                refine takeYes (i := 1) (d := 50) (v := ?_) rfl rfl (by kernel_rfl) (by kernel_rfl) (by kernel_rfl) (fun _ _ _ h => h) (by rfl) (by assumption) ?_ ?_
                rotate_left
                · intro w' hSw; (try dsimp only at hSw); go_simp; try exact rfl
                try simp only [List.setIfInBounds_toArray, List.set_cons_zero, List.set_cons_succ]
                refine takeYes (i := 2) (d := 51) (v := ?_) rfl rfl (by kernel_rfl) (by kernel_rfl) (by kernel_rfl) (fun _ _ _ h => h) (by rfl) (by assumption) ?_ ?_
                rotate_left
                · intro w' hSw; (try dsimp only at hSw); go_simp; try exact rfl
                try simp only [List.setIfInBounds_toArray, List.set_cons_zero, List.set_cons_succ]
                refine takeYes (i := 3) (d := 52) (v := ?_) rfl rfl (by kernel_rfl) (by kernel_rfl) (by kernel_rfl) (fun _ _ _ h => h) (by rfl) (by assumption) ?_ ?_
                rotate_left
                · intro w' hSw; (try dsimp only at hSw); go_simp; try exact rfl
                try simp only [List.setIfInBounds_toArray, List.set_cons_zero, List.set_cons_succ]
                refine takeYes (i := 4) (d := 53) (v := ?_) rfl rfl (by kernel_rfl) (by kernel_rfl) (by kernel_rfl) (fun _ _ _ h => h) (by rfl) (by assumption) ?_ ?_
                rotate_left
                · intro w' hSw; (try dsimp only at hSw); go_simp; try exact rfl
                try simp only [List.setIfInBounds_toArray, List.set_cons_zero, List.set_cons_succ]
                refine wpAnyH_ready (rs := [5]) (by kernel_rfl) (by simp) ?_
                refine AllReadyH.cons rfl (fun K hK => ?_) AllReadyH.nil
                go_simp
                go_at_call 67
                refine (specName_any m _ hms).mono ?_
                rintro e w1 ⟨rfl, rfl⟩
                try go_wp2_with fail
                refine hK.out _ _ ?_ (fun hHeld5 => ?_)
                · (try dsimp only); refine ⟨?_, ?_⟩ <;> first | (go_simp; done) | (exact cell_later (by assumption) (by go_simp))
                clear hK
                refine takeYes (i := 6) (d := 55) (v := ?_) rfl rfl (by kernel_rfl) (by kernel_rfl) (by kernel_rfl) (fun _ _ _ h => h) (by rfl) (by assumption) ?_ ?_
                rotate_left
                · intro w' hSw; (try dsimp only at hSw); go_simp; try exact rfl
                try simp only [List.setIfInBounds_toArray, List.set_cons_zero, List.set_cons_succ]
                refine takeYes (i := 7) (d := 56) (v := ?_) rfl rfl (by kernel_rfl) (by kernel_rfl) (by kernel_rfl) (fun _ _ _ h => h) (by rfl) (by assumption) ?_ ?_
                rotate_left
                · intro w' hSw; (try dsimp only at hSw); go_simp; try exact rfl
                try simp only [List.setIfInBounds_toArray, List.set_cons_zero, List.set_cons_succ]
                refine takeYes (i := 8) (d := 57) (v := ?_) rfl rfl (by kernel_rfl) (by kernel_rfl) (by kernel_rfl) (fun _ _ _ h => h) (by rfl) (by assumption) ?_ ?_
                rotate_left
                · intro w' hSw; (try dsimp only at hSw); go_simp; try exact rfl
                try simp only [List.setIfInBounds_toArray, List.set_cons_zero, List.set_cons_succ]
                refine takeYes (i := 9) (d := 58) (v := ?_) rfl rfl (by kernel_rfl) (by kernel_rfl) (by kernel_rfl) (fun _ _ _ h => h) (by rfl) (by assumption) ?_ ?_
                rotate_left
                · intro w' hSw; (try dsimp only at hSw); go_simp; try exact rfl
                try simp only [List.setIfInBounds_toArray, List.set_cons_zero, List.set_cons_succ]
                refine takeYes (i := 10) (d := 59) (v := ?_) rfl rfl (by kernel_rfl) (by kernel_rfl) (by kernel_rfl) (fun _ _ _ h => h) (by rfl) (by assumption) ?_ ?_
                rotate_left
                · intro w' hSw; (try dsimp only at hSw); go_simp; try exact rfl
                try simp only [List.setIfInBounds_toArray, List.set_cons_zero, List.set_cons_succ]
                refine takeYes (i := 11) (d := 60) (v := ?_) rfl rfl (by kernel_rfl) (by kernel_rfl) (by kernel_rfl) (fun _ _ _ h => h) (by rfl) (by assumption) ?_ ?_
                rotate_left
                · intro w' hSw; (try dsimp only at hSw); go_simp; try exact rfl
                try simp only [List.setIfInBounds_toArray, List.set_cons_zero, List.set_cons_succ]
                refine takeYes (i := 12) (d := 61) (v := ?_) rfl rfl (by kernel_rfl) (by kernel_rfl) (by kernel_rfl) (fun _ _ _ h => h) (by rfl) (by assumption) ?_ ?_
                rotate_left
                · intro w' hSw; (try dsimp only at hSw); go_simp; try exact rfl
                try simp only [List.setIfInBounds_toArray, List.set_cons_zero, List.set_cons_succ]
                refine takeYes (i := 13) (d := 62) (v := ?_) rfl rfl (by kernel_rfl) (by kernel_rfl) (by kernel_rfl) (fun _ _ _ h => h) (by rfl) (by assumption) ?_ ?_
                rotate_left
                · intro w' hSw; (try dsimp only at hSw); go_simp; try exact rfl
                try simp only [List.setIfInBounds_toArray, List.set_cons_zero, List.set_cons_succ]
                refine takeYes (i := 14) (d := 63) (v := ?_) rfl rfl (by kernel_rfl) (by kernel_rfl) (by kernel_rfl) (fun _ _ _ h => h) (by rfl) (by assumption) ?_ ?_
                rotate_left
                · intro w' hSw; (try dsimp only at hSw); go_simp; try exact rfl
                try simp only [List.setIfInBounds_toArray, List.set_cons_zero, List.set_cons_succ]
                refine takeYes (i := 15) (d := 64) (v := ?_) rfl rfl (by kernel_rfl) (by kernel_rfl) (by kernel_rfl) (fun _ _ _ h => h) (by rfl) (by assumption) ?_ ?_
                rotate_left
                · intro w' hSw; (try dsimp only at hSw); go_simp; try exact rfl
                try simp only [List.setIfInBounds_toArray, List.set_cons_zero, List.set_cons_succ]
                refine takeYes (i := 16) (d := 65) (v := ?_) rfl rfl (by kernel_rfl) (by kernel_rfl) (by kernel_rfl) (fun _ _ _ h => h) (by rfl) (by assumption) ?_ ?_
                rotate_left
                · intro w' hSw; (try dsimp only at hSw); go_simp; try exact rfl
                try simp only [List.setIfInBounds_toArray, List.set_cons_zero, List.set_cons_succ]
                refine wpAnyH_ready (rs := [17]) (by kernel_rfl) (by simp) ?_
                refine AllReadyH.cons rfl (fun K hK => ?_) AllReadyH.nil
                go_simp
                go_at_call 111
                refine Calls.mono (l03HasF_any _ _ g' m _ (hcut.below (by repeat (first | exact Below.refl _ _ | refine Below.drew ?_ | refine Below.alloc ?_ (by first | (simp; done) | (simp; omega) | omega) _ | refine Below.setCell ?_ (by first | (simp; done) | (simp; omega) | omega) _ | refine bstep (by assumption) (by first | (simp; done) | (simp; omega) | omega) ?_)))) ?_
                rw [HH.out]
                rintro e w1 ⟨rfl, rfl⟩
                try go_wp2_with fail
                refine hK.out _ _ ?_ (fun hHeld17 => ?_)
                · (try dsimp only); refine ⟨?_, ?_⟩ <;> first | (go_simp; done) | (exact cell_later (by assumption) (by go_simp))
                clear hK
                refine takeYes (i := 18) (d := 67) (v := ?_) rfl rfl (by kernel_rfl) (by kernel_rfl) (by kernel_rfl) (fun _ _ _ h => h) (by rfl) (by assumption) ?_ ?_
                rotate_left
                · intro w' hSw; (try dsimp only at hSw); go_simp; try exact rfl
                try simp only [List.setIfInBounds_toArray, List.set_cons_zero, List.set_cons_succ]
                refine wpAnyH_done (by kernel_rfl) ?_ _
                go_wp2
                refine ⟨⟨n + 1, hnl, by simp, by (repeat (first | exact hbi | refine Below.drew ?_)), ?_⟩, by simp [intOf]; omega⟩
                rw [HE2.out, HS2.out, HN2.out, HH.out]
                simp
            · have HC : Hid (okCols x.cs = true) := by
                show okCols x.cs = true
                rw [okCols_cols hin, HE2.out, List.drop_eq_nil_of_le (by omega)]; rfl
              clear hR5 hR hxw hin q1
              go_wp2_with fail
              refine ⟨⟨1, 1, hlt, rfl, by simp, by (repeat (first | exact hbwi | refine Below.drew ?_)), ?_⟩, by simp [intOf]; omega⟩
              rw [HE.out, HS.out, hnm, HC.out, prevH_zero]
              simp [okPrevH]
      · obtain ⟨j, rfl⟩ : ∃ j, k = j + 1 := ⟨k - 1, by omega⟩
        obtain rfl : q = (j : Int) + 1 := by omega
        obtain ⟨y, t, gy, hy, d0, d1, hT, _⟩ := hL.at hblt hb (show j < rs.length by omega)
        have HP : Hid (prevH rs (j + 1) = some y) := prevH_succ hy
        have HQ : Hid (okPrevH (prevH rs (j + 1)) x = Op.bytesLess y.s.toList x.s.toList) := by rw [HP.out]; rfl
        have hw1 : IntKind.i64.wrap (j : Int) = j := by rw [IntKind.wrap_i64]; omega
        have hw2 : IntKind.i64.wrap ((j : Int) + 1 - 1) = j := by rw [IntKind.wrap_i64]; omega
        have hi0 : (0 : Int) ≤ j := by omega
        have hi1 : (j : Int) < rs.length := by omega
        have hi2 : (0 : Int) < (j : Int) + 1 := by omega
        clear ha hw hL hx hy hq d1 hT
        cases hcmp : Op.bytesLess y.s.toList x.s.toList with
        | false =>
          have hor : (Op.bytesLess x.s.toList y.s.toList || x.s.toList == y.s.toList) = true := by
            cases h1 : Op.bytesLess x.s.toList y.s.toList with
            | true => rfl
            | false =>
              cases h2 : x.s.toList == y.s.toList with
              | true => rfl
              | false => have := bless_total h1 (by simpa using h2); rw [hcmp] at this; cases this
          go_wp2_with fail
          refine wp_region_held_drew (S := (fun w' => w'.cell? ⟨wo.heap.size, 0, none⟩ = some (.string x.s) ∧ w'.cell? ⟨wo.heap.size, 1, none⟩ = some (.slice ur x.cs.length cr) ∧ w'.cell? ⟨b, o + j * 2, none⟩ = some (.string y.s))) (by kernel_rfl) ?_ (fun hHeld => ?_)
          · (try dsimp only); refine ⟨?_, ?_, ?_⟩ <;> first | (go_simp; done) | (exact cell_later (by assumption) (by go_simp))
          refine takeYes (i := 0) (d := 16) (v := ?_) rfl rfl (by kernel_rfl) (by kernel_rfl) (by kernel_rfl) (fun _ _ _ h => h) (by rfl) (by assumption) ?_ ?_
          rotate_left
          · intro w' hSw; (try dsimp only at hSw); go_simp; try exact rfl
          try simp only [List.setIfInBounds_toArray, List.set_cons_zero, List.set_cons_succ]
          refine takeYes (i := 1) (d := 17) (v := ?_) rfl rfl (by kernel_rfl) (by kernel_rfl) (by kernel_rfl) (fun _ _ _ h => h) (by rfl) (by assumption) ?_ ?_
          rotate_left
          · intro w' hSw; (try dsimp only at hSw); go_simp; try exact rfl
          try simp only [List.setIfInBounds_toArray, List.set_cons_zero, List.set_cons_succ]
          refine wpAnyH_ready (rs := [2]) (by kernel_rfl) (by simp) ?_
          refine AllReadyH.cons rfl (fun K hK => ?_) AllReadyH.nil
          go_simp
          go_at_call 67
          refine (specName_any x.s _ hxs).mono ?_
          rintro e w1 ⟨rfl, rfl⟩
          try go_wp2_with fail
          refine hK.out _ _ ?_ (fun hHeld2 => ?_)
          · (try dsimp only); refine ⟨?_, ?_, ?_⟩ <;> first | (go_simp; done) | (exact cell_later (by assumption) (by go_simp))
          clear hK
          refine takeYes (i := 3) (d := 19) (v := ?_) rfl rfl (by kernel_rfl) (by kernel_rfl) (by kernel_rfl) (fun _ _ _ h => h) (by rfl) (by assumption) ?_ ?_
          rotate_left
          · intro w' hSw; (try dsimp only at hSw); go_simp; try exact rfl
          try simp only [List.setIfInBounds_toArray, List.set_cons_zero, List.set_cons_succ]
          refine takeYes (i := 4) (d := 20) (v := ?_) rfl rfl (by kernel_rfl) (by kernel_rfl) (by kernel_rfl) (fun _ _ _ h => h) (by rfl) (by assumption) ?_ ?_
          rotate_left
          · intro w' hSw; (try dsimp only at hSw); go_simp; try exact rfl
          try simp only [List.setIfInBounds_toArray, List.set_cons_zero, List.set_cons_succ]
          refine takeYes (i := 5) (d := 21) (v := ?_) rfl rfl (by kernel_rfl) (by kernel_rfl) (by kernel_rfl) (fun _ _ _ h => h) (by rfl) (by assumption) ?_ ?_
          rotate_left
          · intro w' hSw; (try dsimp only at hSw); go_simp; try exact rfl
          try simp only [List.setIfInBounds_toArray, List.set_cons_zero, List.set_cons_succ]
          refine takeYes (i := 6) (d := 22) (v := ?_) rfl rfl (by kernel_rfl) (by kernel_rfl) (by kernel_rfl) (fun _ _ _ h => h) (by rfl) (by assumption) ?_ ?_
          rotate_left
          · intro w' hSw; (try dsimp only at hSw); go_simp; try exact rfl
          try simp only [List.setIfInBounds_toArray, List.set_cons_zero, List.set_cons_succ]
          refine takeYes (i := 7) (d := 23) (v := ?_) rfl rfl (by kernel_rfl) (by kernel_rfl) (by kernel_rfl) (fun _ _ _ h => h) (by rfl) (by assumption) ?_ ?_
          rotate_left
          · intro w' hSw; (try dsimp only at hSw); go_simp; try exact rfl
          try simp only [List.setIfInBounds_toArray, List.set_cons_zero, List.set_cons_succ]
          refine takeYes (i := 8) (d := 24) (v := ?_) rfl rfl (by kernel_rfl) (by kernel_rfl) (by kernel_rfl) (fun _ _ _ h => h) (by rfl) (by assumption) ?_ ?_
          rotate_left
          · intro w' hSw; (try dsimp only at hSw); go_simp; try exact rfl
          try simp only [List.setIfInBounds_toArray, List.set_cons_zero, List.set_cons_succ]
          refine takeYes (i := 9) (d := 25) (v := ?_) rfl rfl (by kernel_rfl) (by kernel_rfl) (by kernel_rfl) (fun _ _ _ h => h) (by rfl) (by assumption) ?_ ?_
          rotate_left
          · intro w' hSw; (try dsimp only at hSw); go_simp; try exact rfl
          try simp only [List.setIfInBounds_toArray, List.set_cons_zero, List.set_cons_succ]
          refine takeYes (i := 10) (d := 26) (v := ?_) rfl rfl (by kernel_rfl) (by kernel_rfl) (by kernel_rfl) (fun _ _ _ h => h) (by rfl) (by assumption) ?_ ?_
          rotate_left
          · intro w' hSw; (try dsimp only at hSw); go_simp; try exact rfl
          try simp only [List.setIfInBounds_toArray, List.set_cons_zero, List.set_cons_succ]
          refine takeYes (i := 11) (d := 27) (v := ?_) rfl rfl (by kernel_rfl) (by kernel_rfl) (by kernel_rfl) (fun _ _ _ h => h) (by rfl) (by assumption) ?_ ?_
          rotate_left
          · intro w' hSw; (try dsimp only at hSw); go_simp; try exact rfl
          try simp only [List.setIfInBounds_toArray, List.set_cons_zero, List.set_cons_succ]
          refine takeYes (i := 12) (d := 28) (v := ?_) rfl rfl (by kernel_rfl) (by kernel_rfl) (by kernel_rfl) (fun _ _ _ h => h) (by rfl) (by assumption) ?_ ?_
          rotate_left
          · intro w' hSw; (try dsimp only at hSw); go_simp; try exact rfl
          try simp only [List.setIfInBounds_toArray, List.set_cons_zero, List.set_cons_succ]
          refine takeYes (i := 13) (d := 29) (v := ?_) rfl rfl (by kernel_rfl) (by kernel_rfl) (by kernel_rfl) (fun _ _ _ h => h) (by rfl) (by assumption) ?_ ?_
          rotate_left
          · intro w' hSw; (try dsimp only at hSw); go_simp; try exact rfl
          try simp only [List.setIfInBounds_toArray, List.set_cons_zero, List.set_cons_succ]
          refine takeYes (i := 14) (d := 30) (v := ?_) rfl rfl (by kernel_rfl) (by kernel_rfl) (by kernel_rfl) (fun _ _ _ h => h) (by rfl) (by assumption) ?_ ?_
          rotate_left
          · intro w' hSw; (try dsimp only at hSw); go_simp; try exact rfl
          try simp only [List.setIfInBounds_toArray, List.set_cons_zero, List.set_cons_succ]
          refine takeYes (i := 15) (d := 31) (v := ?_) rfl rfl (by kernel_rfl) (by kernel_rfl) (by kernel_rfl) (fun _ _ _ h => h) (by rfl) (by assumption) ?_ ?_
          rotate_left
          · intro w' hSw; (try dsimp only at hSw); go_simp; try exact rfl
          try simp only [List.setIfInBounds_toArray, List.set_cons_zero, List.set_cons_succ]
          refine takeYes (i := 16) (d := 32) (v := ?_) rfl rfl (by kernel_rfl) (by kernel_rfl) (by kernel_rfl) (fun _ _ _ h => h) (by rfl) (by assumption) ?_ ?_
          rotate_left
          · intro w' hSw; (try dsimp only at hSw); go_simp; try exact rfl
          try simp only [List.setIfInBounds_toArray, List.set_cons_zero, List.set_cons_succ]
          refine takeYes (i := 17) (d := 33) (v := ?_) rfl rfl (by kernel_rfl) (by kernel_rfl) (by kernel_rfl) (fun _ _ _ h => h) (by rfl) (by assumption) ?_ ?_
          rotate_left
          · intro w' hSw; (try dsimp only at hSw); go_simp; try exact rfl
          try simp only [List.setIfInBounds_toArray, List.set_cons_zero, List.set_cons_succ]
          refine takeYes (i := 18) (d := 34) (v := ?_) rfl rfl (by kernel_rfl) (by kernel_rfl) (by kernel_rfl) (fun _ _ _ h => h) (by rfl) (by assumption) ?_ ?_
          rotate_left
          · intro w' hSw; (try dsimp only at hSw); go_simp; try exact rfl
          try simp only [List.setIfInBounds_toArray, List.set_cons_zero, List.set_cons_succ]
          refine takeYes (i := 19) (d := 35) (v := ?_) rfl rfl (by kernel_rfl) (by kernel_rfl) (by kernel_rfl) (fun _ _ _ h => h) (by rfl) (by assumption) ?_ ?_
          rotate_left
          · intro w' hSw; (try dsimp only at hSw); go_simp; try exact rfl
          try simp only [List.setIfInBounds_toArray, List.set_cons_zero, List.set_cons_succ]
          refine takeNo (i := 20) (d := 36) rfl rfl (by kernel_rfl) (by kernel_rfl) (by kernel_rfl) (fun _ _ _ h => h) (by rfl) (by assumption) ?_
          try simp only [List.setIfInBounds_toArray, List.set_cons_zero, List.set_cons_succ]
          refine takeNo (i := 21) (d := 37) rfl rfl (by kernel_rfl) (by kernel_rfl) (by kernel_rfl) (fun _ _ _ h => h) (by rfl) (by assumption) ?_
          try simp only [List.setIfInBounds_toArray, List.set_cons_zero, List.set_cons_succ]
          refine takeNo (i := 22) (d := 38) rfl rfl (by kernel_rfl) (by kernel_rfl) (by kernel_rfl) (fun _ _ _ h => h) (by rfl) (by assumption) ?_
          try simp only [List.setIfInBounds_toArray, List.set_cons_zero, List.set_cons_succ]
          refine wpAnyH_ready (rs := [23]) (by kernel_rfl) (by simp) ?_
          refine AllReadyH.cons rfl (fun K hK => ?_) AllReadyH.nil
          go_simp
          refine hK.out _ _ ?_ (fun hHeld23 => ?_)
          · (try dsimp only); refine ⟨?_, ?_, ?_⟩ <;> first | (go_simp; done) | (exact cell_later (by assumption) (by go_simp))
          clear hK
          refine takeNo (i := 24) (d := 40) rfl rfl (by kernel_rfl) (by kernel_rfl) (by kernel_rfl) (fun _ _ _ h => h) (by rfl) (by assumption) ?_
          try simp only [List.setIfInBounds_toArray, List.set_cons_zero, List.set_cons_succ]
          refine takeYes (i := 25) (d := 41) (v := ?_) rfl rfl (by kernel_rfl) (by kernel_rfl) (by kernel_rfl) (fun _ _ _ h => h) (by rfl) (by assumption) ?_ ?_
          rotate_left
          · intro w' hSw; (try dsimp only at hSw); go_simp; try exact rfl
          try simp only [List.setIfInBounds_toArray, List.set_cons_zero, List.set_cons_succ]
          refine wpAnyH_done (by kernel_rfl) ?_ _
          go_wp2
          go_returns
          refine ⟨ret_bool ?_, by repeat (first | exact Below.refl _ _ | refine Below.drew ?_ | refine Below.alloc ?_ (by first | (simp; done) | (simp; omega) | omega) _ | refine Below.setCell ?_ (by first | (simp; done) | (simp; omega) | omega) _ | refine bstep (by assumption) (by first | (simp; done) | (simp; omega) | omega) ?_)⟩
          unfold okSch
          rw [HE.out, HS.out, HQ.out, hcmp]
          simp
        | true =>
          have hno : Op.bytesLess x.s.toList y.s.toList = false := bless_asymm hcmp
          have hne : (x.s.toList == y.s.toList) = false := by
            cases h2 : x.s.toList == y.s.toList with
            | false => rfl
            | true => rw [beq_iff_eq] at h2; rw [h2, bless_irrefl] at hcmp; cases hcmp
          cases hin : inB x.cs.length 1 12 with
          | false =>
            go_wp2_with fail
            refine wp_region_held_drew (S := (fun w' => w'.cell? ⟨wo.heap.size, 0, none⟩ = some (.string x.s) ∧ w'.cell? ⟨wo.heap.size, 1, none⟩ = some (.slice ur x.cs.length cr) ∧ w'.cell? ⟨b, o + j * 2, none⟩ = some (.string y.s))) (by kernel_rfl) ?_ (fun hHeld => ?_)
            · (try dsimp only); refine ⟨?_, ?_, ?_⟩ <;> first | (go_simp; done) | (exact cell_later (by assumption) (by go_simp))
            refine takeYes (i := 0) (d := 16) (v := ?_) rfl rfl (by kernel_rfl) (by kernel_rfl) (by kernel_rfl) (fun _ _ _ h => h) (by rfl) (by assumption) ?_ ?_
            rotate_left
            · intro w' hSw; (try dsimp only at hSw); go_simp; try exact rfl
            try simp only [List.setIfInBounds_toArray, List.set_cons_zero, List.set_cons_succ]
            refine takeYes (i := 1) (d := 17) (v := ?_) rfl rfl (by kernel_rfl) (by kernel_rfl) (by kernel_rfl) (fun _ _ _ h => h) (by rfl) (by assumption) ?_ ?_
            rotate_left
            · intro w' hSw; (try dsimp only at hSw); go_simp; try exact rfl
            try simp only [List.setIfInBounds_toArray, List.set_cons_zero, List.set_cons_succ]
            refine wpAnyH_ready (rs := [2]) (by kernel_rfl) (by simp) ?_
            refine AllReadyH.cons rfl (fun K hK => ?_) AllReadyH.nil
            go_simp
            go_at_call 67
            refine (specName_any x.s _ hxs).mono ?_
            rintro e w1 ⟨rfl, rfl⟩
            try go_wp2_with fail
            refine hK.out _ _ ?_ (fun hHeld2 => ?_)
            · (try dsimp only); refine ⟨?_, ?_, ?_⟩ <;> first | (go_simp; done) | (exact cell_later (by assumption) (by go_simp))
            clear hK
            refine takeYes (i := 3) (d := 19) (v := ?_) rfl rfl (by kernel_rfl) (by kernel_rfl) (by kernel_rfl) (fun _ _ _ h => h) (by rfl) (by assumption) ?_ ?_
            rotate_left
            · intro w' hSw; (try dsimp only at hSw); go_simp; try exact rfl
            try simp only [List.setIfInBounds_toArray, List.set_cons_zero, List.set_cons_succ]
            refine takeYes (i := 4) (d := 20) (v := ?_) rfl rfl (by kernel_rfl) (by kernel_rfl) (by kernel_rfl) (fun _ _ _ h => h) (by rfl) (by assumption) ?_ ?_
            rotate_left
            · intro w' hSw; (try dsimp only at hSw); go_simp; try exact rfl
            try simp only [List.setIfInBounds_toArray, List.set_cons_zero, List.set_cons_succ]
            refine takeYes (i := 5) (d := 21) (v := ?_) rfl rfl (by kernel_rfl) (by kernel_rfl) (by kernel_rfl) (fun _ _ _ h => h) (by rfl) (by assumption) ?_ ?_
            rotate_left
            · intro w' hSw; (try dsimp only at hSw); go_simp; try exact rfl
            try simp only [List.setIfInBounds_toArray, List.set_cons_zero, List.set_cons_succ]
            refine takeYes (i := 6) (d := 22) (v := ?_) rfl rfl (by kernel_rfl) (by kernel_rfl) (by kernel_rfl) (fun _ _ _ h => h) (by rfl) (by assumption) ?_ ?_
            rotate_left
            · intro w' hSw; (try dsimp only at hSw); go_simp; try exact rfl
            try simp only [List.setIfInBounds_toArray, List.set_cons_zero, List.set_cons_succ]
            refine takeYes (i := 7) (d := 23) (v := ?_) rfl rfl (by kernel_rfl) (by kernel_rfl) (by kernel_rfl) (fun _ _ _ h => h) (by rfl) (by assumption) ?_ ?_
            rotate_left
            · intro w' hSw; (try dsimp only at hSw); go_simp; try exact rfl
            try simp only [List.setIfInBounds_toArray, List.set_cons_zero, List.set_cons_succ]
            refine takeYes (i := 8) (d := 24) (v := ?_) rfl rfl (by kernel_rfl) (by kernel_rfl) (by kernel_rfl) (fun _ _ _ h => h) (by rfl) (by assumption) ?_ ?_
            rotate_left
            · intro w' hSw; (try dsimp only at hSw); go_simp; try exact rfl
            try simp only [List.setIfInBounds_toArray, List.set_cons_zero, List.set_cons_succ]
            refine takeYes (i := 9) (d := 25) (v := ?_) rfl rfl (by kernel_rfl) (by kernel_rfl) (by kernel_rfl) (fun _ _ _ h => h) (by rfl) (by assumption) ?_ ?_
            rotate_left
            · intro w' hSw; (try dsimp only at hSw); go_simp; try exact rfl
            try simp only [List.setIfInBounds_toArray, List.set_cons_zero, List.set_cons_succ]
            refine takeYes (i := 10) (d := 26) (v := ?_) rfl rfl (by kernel_rfl) (by kernel_rfl) (by kernel_rfl) (fun _ _ _ h => h) (by rfl) (by assumption) ?_ ?_
            rotate_left
            · intro w' hSw; (try dsimp only at hSw); go_simp; try exact rfl
            try simp only [List.setIfInBounds_toArray, List.set_cons_zero, List.set_cons_succ]
            refine takeYes (i := 11) (d := 27) (v := ?_) rfl rfl (by kernel_rfl) (by kernel_rfl) (by kernel_rfl) (fun _ _ _ h => h) (by rfl) (by assumption) ?_ ?_
            rotate_left
            · intro w' hSw; (try dsimp only at hSw); go_simp; try exact rfl
            try simp only [List.setIfInBounds_toArray, List.set_cons_zero, List.set_cons_succ]
            refine takeYes (i := 12) (d := 28) (v := ?_) rfl rfl (by kernel_rfl) (by kernel_rfl) (by kernel_rfl) (fun _ _ _ h => h) (by rfl) (by assumption) ?_ ?_
            rotate_left
            · intro w' hSw; (try dsimp only at hSw); go_simp; try exact rfl
            try simp only [List.setIfInBounds_toArray, List.set_cons_zero, List.set_cons_succ]
            refine takeYes (i := 13) (d := 29) (v := ?_) rfl rfl (by kernel_rfl) (by kernel_rfl) (by kernel_rfl) (fun _ _ _ h => h) (by rfl) (by assumption) ?_ ?_
            rotate_left
            · intro w' hSw; (try dsimp only at hSw); go_simp; try exact rfl
            try simp only [List.setIfInBounds_toArray, List.set_cons_zero, List.set_cons_succ]
            refine takeYes (i := 14) (d := 30) (v := ?_) rfl rfl (by kernel_rfl) (by kernel_rfl) (by kernel_rfl) (fun _ _ _ h => h) (by rfl) (by assumption) ?_ ?_
            rotate_left
            · intro w' hSw; (try dsimp only at hSw); go_simp; try exact rfl
            try simp only [List.setIfInBounds_toArray, List.set_cons_zero, List.set_cons_succ]
            refine takeYes (i := 15) (d := 31) (v := ?_) rfl rfl (by kernel_rfl) (by kernel_rfl) (by kernel_rfl) (fun _ _ _ h => h) (by rfl) (by assumption) ?_ ?_
            rotate_left
            · intro w' hSw; (try dsimp only at hSw); go_simp; try exact rfl
            try simp only [List.setIfInBounds_toArray, List.set_cons_zero, List.set_cons_succ]
            refine takeYes (i := 16) (d := 32) (v := ?_) rfl rfl (by kernel_rfl) (by kernel_rfl) (by kernel_rfl) (fun _ _ _ h => h) (by rfl) (by assumption) ?_ ?_
            rotate_left
            · intro w' hSw; (try dsimp only at hSw); go_simp; try exact rfl
            try simp only [List.setIfInBounds_toArray, List.set_cons_zero, List.set_cons_succ]
            refine takeYes (i := 17) (d := 33) (v := ?_) rfl rfl (by kernel_rfl) (by kernel_rfl) (by kernel_rfl) (fun _ _ _ h => h) (by rfl) (by assumption) ?_ ?_
            rotate_left
            · intro w' hSw; (try dsimp only at hSw); go_simp; try exact rfl
            try simp only [List.setIfInBounds_toArray, List.set_cons_zero, List.set_cons_succ]
            refine takeYes (i := 18) (d := 34) (v := ?_) rfl rfl (by kernel_rfl) (by kernel_rfl) (by kernel_rfl) (fun _ _ _ h => h) (by rfl) (by assumption) ?_ ?_
            rotate_left
            · intro w' hSw; (try dsimp only at hSw); go_simp; try exact rfl
            try simp only [List.setIfInBounds_toArray, List.set_cons_zero, List.set_cons_succ]
            refine takeYes (i := 19) (d := 35) (v := ?_) rfl rfl (by kernel_rfl) (by kernel_rfl) (by kernel_rfl) (fun _ _ _ h => h) (by rfl) (by assumption) ?_ ?_
            rotate_left
            · intro w' hSw; (try dsimp only at hSw); go_simp; try exact rfl
            try simp only [List.setIfInBounds_toArray, List.set_cons_zero, List.set_cons_succ]
            refine takeYes (i := 20) (d := 36) (v := ?_) rfl rfl (by kernel_rfl) (by kernel_rfl) (by kernel_rfl) (fun _ _ _ h => h) (by rfl) (by assumption) ?_ ?_
            rotate_left
            · intro w' hSw; (try dsimp only at hSw); go_simp; try exact rfl
            try simp only [List.setIfInBounds_toArray, List.set_cons_zero, List.set_cons_succ]
            refine takeYes (i := 21) (d := 37) (v := ?_) rfl rfl (by kernel_rfl) (by kernel_rfl) (by kernel_rfl) (fun _ _ _ h => h) (by rfl) (by assumption) ?_ ?_
            rotate_left
            · intro w' hSw; (try dsimp only at hSw); go_simp; try exact rfl
            try simp only [List.setIfInBounds_toArray, List.set_cons_zero, List.set_cons_succ]
            refine takeYes (i := 22) (d := 38) (v := ?_) rfl rfl (by kernel_rfl) (by kernel_rfl) (by kernel_rfl) (fun _ _ _ h => h) (by rfl) (by assumption) ?_ ?_
            rotate_left
            · intro w' hSw; (try dsimp only at hSw); go_simp; try exact rfl
            try simp only [List.setIfInBounds_toArray, List.set_cons_zero, List.set_cons_succ]
            refine wpAnyH_ready (rs := [23]) (by kernel_rfl) (by simp) ?_
            refine AllReadyH.cons rfl (fun K hK => ?_) AllReadyH.nil
            go_simp
            go_at_call 68
            refine (l01InN_any _ _ _ _).mono ?_
            rintro e w1 ⟨rfl, rfl⟩
            try go_wp2_with fail
            refine hK.out _ _ ?_ (fun hHeld23 => ?_)
            · (try dsimp only); refine ⟨?_, ?_, ?_⟩ <;> first | (go_simp; done) | (exact cell_later (by assumption) (by go_simp))
            clear hK
            refine takeYes (i := 24) (d := 40) (v := ?_) rfl rfl (by kernel_rfl) (by kernel_rfl) (by kernel_rfl) (fun _ _ _ h => h) (by rfl) (by assumption) ?_ ?_
            rotate_left
            · intro w' hSw; (try dsimp only at hSw); go_simp; try exact rfl
            try simp only [List.setIfInBounds_toArray, List.set_cons_zero, List.set_cons_succ]
            refine takeYes (i := 25) (d := 41) (v := ?_) rfl rfl (by kernel_rfl) (by kernel_rfl) (by kernel_rfl) (fun _ _ _ h => h) (by rfl) (by assumption) ?_ ?_
            rotate_left
            · intro w' hSw; (try dsimp only at hSw); go_simp; try exact rfl
            try simp only [List.setIfInBounds_toArray, List.set_cons_zero, List.set_cons_succ]
            refine wpAnyH_done (by kernel_rfl) ?_ _
            go_wp2
            go_returns
            refine ⟨ret_bool ?_, by repeat (first | exact Below.refl _ _ | refine Below.drew ?_ | refine Below.alloc ?_ (by first | (simp; done) | (simp; omega) | omega) _ | refine Below.setCell ?_ (by first | (simp; done) | (simp; omega) | omega) _ | refine bstep (by assumption) (by first | (simp; done) | (simp; omega) | omega) ?_)⟩
            unfold okSch
            rw [HE.out, HS.out, okCols_no hin]
            simp
          | true =>
            go_wp2_with fail
            refine wp_region_held_drew (S := (fun w' => w'.cell? ⟨wo.heap.size, 0, none⟩ = some (.string x.s) ∧ w'.cell? ⟨wo.heap.size, 1, none⟩ = some (.slice ur x.cs.length cr) ∧ w'.cell? ⟨b, o + j * 2, none⟩ = some (.string y.s))) (by kernel_rfl) ?_ (fun hHeld => ?_)
            · (try dsimp only); refine ⟨?_, ?_, ?_⟩ <;> first | (go_simp; done) | (exact cell_later (by assumption) (by go_simp))
            refine takeYes (i := 0) (d := 16) (v := ?_) rfl rfl (by kernel_rfl) (by kernel_rfl) (by kernel_rfl) (fun _ _ _ h => h) (by rfl) (by assumption) ?_ ?_
            rotate_left
            · intro w' hSw; (try dsimp only at hSw); go_simp; try exact rfl
            try simp only [List.setIfInBounds_toArray, List.set_cons_zero, List.set_cons_succ]
            refine takeYes (i := 1) (d := 17) (v := ?_) rfl rfl (by kernel_rfl) (by kernel_rfl) (by kernel_rfl) (fun _ _ _ h => h) (by rfl) (by assumption) ?_ ?_
            rotate_left
            · intro w' hSw; (try dsimp only at hSw); go_simp; try exact rfl
            try simp only [List.setIfInBounds_toArray, List.set_cons_zero, List.set_cons_succ]
            refine wpAnyH_ready (rs := [2]) (by kernel_rfl) (by simp) ?_
            refine AllReadyH.cons rfl (fun K hK => ?_) AllReadyH.nil
            go_simp
            go_at_call 67
            refine (specName_any x.s _ hxs).mono ?_
            rintro e w1 ⟨rfl, rfl⟩
            try go_wp2_with fail
            refine hK.out _ _ ?_ (fun hHeld2 => ?_)
            · (try dsimp only); refine ⟨?_, ?_, ?_⟩ <;> first | (go_simp; done) | (exact cell_later (by assumption) (by go_simp))
            clear hK
            refine takeYes (i := 3) (d := 19) (v := ?_) rfl rfl (by kernel_rfl) (by kernel_rfl) (by kernel_rfl) (fun _ _ _ h => h) (by rfl) (by assumption) ?_ ?_
            rotate_left
            · intro w' hSw; (try dsimp only at hSw); go_simp; try exact rfl
            try simp only [List.setIfInBounds_toArray, List.set_cons_zero, List.set_cons_succ]
            refine takeYes (i := 4) (d := 20) (v := ?_) rfl rfl (by kernel_rfl) (by kernel_rfl) (by kernel_rfl) (fun _ _ _ h => h) (by rfl) (by assumption) ?_ ?_
            rotate_left
            · intro w' hSw; (try dsimp only at hSw); go_simp; try exact rfl
            try simp only [List.setIfInBounds_toArray, List.set_cons_zero, List.set_cons_succ]
            refine takeYes (i := 5) (d := 21) (v := ?_) rfl rfl (by kernel_rfl) (by kernel_rfl) (by kernel_rfl) (fun _ _ _ h => h) (by rfl) (by assumption) ?_ ?_
            rotate_left
            · intro w' hSw; (try dsimp only at hSw); go_simp; try exact rfl
            try simp only [List.setIfInBounds_toArray, List.set_cons_zero, List.set_cons_succ]
            refine takeYes (i := 6) (d := 22) (v := ?_) rfl rfl (by kernel_rfl) (by kernel_rfl) (by kernel_rfl) (fun _ _ _ h => h) (by rfl) (by assumption) ?_ ?_
            rotate_left
            · intro w' hSw; (try dsimp only at hSw); go_simp; try exact rfl
            try simp only [List.setIfInBounds_toArray, List.set_cons_zero, List.set_cons_succ]
            refine takeYes (i := 7) (d := 23) (v := ?_) rfl rfl (by kernel_rfl) (by kernel_rfl) (by kernel_rfl) (fun _ _ _ h => h) (by rfl) (by assumption) ?_ ?_
            rotate_left
            · intro w' hSw; (try dsimp only at hSw); go_simp; try exact rfl
            try simp only [List.setIfInBounds_toArray, List.set_cons_zero, List.set_cons_succ]
            refine takeYes (i := 8) (d := 24) (v := ?_) rfl rfl (by kernel_rfl) (by kernel_rfl) (by kernel_rfl) (fun _ _ _ h => h) (by rfl) (by assumption) ?_ ?_
            rotate_left
            · intro w' hSw; (try dsimp only at hSw); go_simp; try exact rfl
            try simp only [List.setIfInBounds_toArray, List.set_cons_zero, List.set_cons_succ]
            refine takeYes (i := 9) (d := 25) (v := ?_) rfl rfl (by kernel_rfl) (by kernel_rfl) (by kernel_rfl) (fun _ _ _ h => h) (by rfl) (by assumption) ?_ ?_
            rotate_left
            · intro w' hSw; (try dsimp only at hSw); go_simp; try exact rfl
            try simp only [List.setIfInBounds_toArray, List.set_cons_zero, List.set_cons_succ]
            refine takeYes (i := 10) (d := 26) (v := ?_) rfl rfl (by kernel_rfl) (by kernel_rfl) (by kernel_rfl) (fun _ _ _ h => h) (by rfl) (by assumption) ?_ ?_
            rotate_left
            · intro w' hSw; (try dsimp only at hSw); go_simp; try exact rfl
            try simp only [List.setIfInBounds_toArray, List.set_cons_zero, List.set_cons_succ]
            refine takeYes (i := 11) (d := 27) (v := ?_) rfl rfl (by kernel_rfl) (by kernel_rfl) (by kernel_rfl) (fun _ _ _ h => h) (by rfl) (by assumption) ?_ ?_
            rotate_left
            · intro w' hSw; (try dsimp only at hSw); go_simp; try exact rfl
            try simp only [List.setIfInBounds_toArray, List.set_cons_zero, List.set_cons_succ]
            refine takeYes (i := 12) (d := 28) (v := ?_) rfl rfl (by kernel_rfl) (by kernel_rfl) (by kernel_rfl) (fun _ _ _ h => h) (by rfl) (by assumption) ?_ ?_
            rotate_left
            · intro w' hSw; (try dsimp only at hSw); go_simp; try exact rfl
            try simp only [List.setIfInBounds_toArray, List.set_cons_zero, List.set_cons_succ]
            refine takeYes (i := 13) (d := 29) (v := ?_) rfl rfl (by kernel_rfl) (by kernel_rfl) (by kernel_rfl) (fun _ _ _ h => h) (by rfl) (by assumption) ?_ ?_
            rotate_left
            · intro w' hSw; (try dsimp only at hSw); go_simp; try exact rfl
            try simp only [List.setIfInBounds_toArray, List.set_cons_zero, List.set_cons_succ]
            refine takeYes (i := 14) (d := 30) (v := ?_) rfl rfl (by kernel_rfl) (by kernel_rfl) (by kernel_rfl) (fun _ _ _ h => h) (by rfl) (by assumption) ?_ ?_
            rotate_left
            · intro w' hSw; (try dsimp only at hSw); go_simp; try exact rfl
            try simp only [List.setIfInBounds_toArray, List.set_cons_zero, List.set_cons_succ]
            refine takeYes (i := 15) (d := 31) (v := ?_) rfl rfl (by kernel_rfl) (by kernel_rfl) (by kernel_rfl) (fun _ _ _ h => h) (by rfl) (by assumption) ?_ ?_
            rotate_left
            · intro w' hSw; (try dsimp only at hSw); go_simp; try exact rfl
            try simp only [List.setIfInBounds_toArray, List.set_cons_zero, List.set_cons_succ]
            refine takeYes (i := 16) (d := 32) (v := ?_) rfl rfl (by kernel_rfl) (by kernel_rfl) (by kernel_rfl) (fun _ _ _ h => h) (by rfl) (by assumption) ?_ ?_
            rotate_left
            · intro w' hSw; (try dsimp only at hSw); go_simp; try exact rfl
            try simp only [List.setIfInBounds_toArray, List.set_cons_zero, List.set_cons_succ]
            refine takeYes (i := 17) (d := 33) (v := ?_) rfl rfl (by kernel_rfl) (by kernel_rfl) (by kernel_rfl) (fun _ _ _ h => h) (by rfl) (by assumption) ?_ ?_
            rotate_left
            · intro w' hSw; (try dsimp only at hSw); go_simp; try exact rfl
            try simp only [List.setIfInBounds_toArray, List.set_cons_zero, List.set_cons_succ]
            refine takeYes (i := 18) (d := 34) (v := ?_) rfl rfl (by kernel_rfl) (by kernel_rfl) (by kernel_rfl) (fun _ _ _ h => h) (by rfl) (by assumption) ?_ ?_
            rotate_left
            · intro w' hSw; (try dsimp only at hSw); go_simp; try exact rfl
            try simp only [List.setIfInBounds_toArray, List.set_cons_zero, List.set_cons_succ]
            refine takeYes (i := 19) (d := 35) (v := ?_) rfl rfl (by kernel_rfl) (by kernel_rfl) (by kernel_rfl) (fun _ _ _ h => h) (by rfl) (by assumption) ?_ ?_
            rotate_left
            · intro w' hSw; (try dsimp only at hSw); go_simp; try exact rfl
            try simp only [List.setIfInBounds_toArray, List.set_cons_zero, List.set_cons_succ]
            refine takeYes (i := 20) (d := 36) (v := ?_) rfl rfl (by kernel_rfl) (by kernel_rfl) (by kernel_rfl) (fun _ _ _ h => h) (by rfl) (by assumption) ?_ ?_
            rotate_left
            · intro w' hSw; (try dsimp only at hSw); go_simp; try exact rfl
            try simp only [List.setIfInBounds_toArray, List.set_cons_zero, List.set_cons_succ]
            refine takeYes (i := 21) (d := 37) (v := ?_) rfl rfl (by kernel_rfl) (by kernel_rfl) (by kernel_rfl) (fun _ _ _ h => h) (by rfl) (by assumption) ?_ ?_
            rotate_left
            · intro w' hSw; (try dsimp only at hSw); go_simp; try exact rfl
            try simp only [List.setIfInBounds_toArray, List.set_cons_zero, List.set_cons_succ]
            refine takeYes (i := 22) (d := 38) (v := ?_) rfl rfl (by kernel_rfl) (by kernel_rfl) (by kernel_rfl) (fun _ _ _ h => h) (by rfl) (by assumption) ?_ ?_
            rotate_left
            · intro w' hSw; (try dsimp only at hSw); go_simp; try exact rfl
            try simp only [List.setIfInBounds_toArray, List.set_cons_zero, List.set_cons_succ]
            refine wpAnyH_ready (rs := [23]) (by kernel_rfl) (by simp) ?_
            refine AllReadyH.cons rfl (fun K hK => ?_) AllReadyH.nil
            go_simp
            go_at_call 68
            refine (l01InN_any _ _ _ _).mono ?_
            rintro e w1 ⟨rfl, rfl⟩
            try go_wp2_with fail
            refine hK.out _ _ ?_ (fun hHeld23 => ?_)
            · (try dsimp only); refine ⟨?_, ?_, ?_⟩ <;> first | (go_simp; done) | (exact cell_later (by assumption) (by go_simp))
            clear hK
            refine takeYes (i := 24) (d := 40) (v := ?_) rfl rfl (by kernel_rfl) (by kernel_rfl) (by kernel_rfl) (fun _ _ _ h => h) (by rfl) (by assumption) ?_ ?_
            rotate_left
            · intro w' hSw; (try dsimp only at hSw); go_simp; try exact rfl
            try simp only [List.setIfInBounds_toArray, List.set_cons_zero, List.set_cons_succ]
            refine takeYes (i := 25) (d := 41) (v := ?_) rfl rfl (by kernel_rfl) (by kernel_rfl) (by kernel_rfl) (fun _ _ _ h => h) (by rfl) (by assumption) ?_ ?_
            rotate_left
            · intro w' hSw; (try dsimp only at hSw); go_simp; try exact rfl
            try simp only [List.setIfInBounds_toArray, List.set_cons_zero, List.set_cons_succ]
            refine wpAnyH_done (by kernel_rfl) ?_ _
            go_wp2_with fail
            have hb5 : Below wo.heap.size wo (wo.alloc (.cells #[.string x.s, .slice ur x.cs.length cr] 97)).drew := by repeat (first | (with_reducible exact Below.refl _ _) | (with_reducible refine Below.drew ?_) | (with_reducible refine Below.alloc ?_ ?hh _; case hh => first | (simp; done) | (simp; omega) | omega) | (with_reducible refine Below.setCell ?_ ?hh _; case hh => first | (simp; done) | (simp; omega) | omega) | refine bstep (by assumption) (by first | (simp; done) | (simp; omega) | omega) ?_)
            have q1 : ((wo.alloc (.cells #[.string x.s, .slice ur x.cs.length cr] 97)).drew).cell? ⟨wo.heap.size, 1, none⟩ = some (.slice ur x.cs.length cr) := hHeld23.2.1
            have hs5 : wo.heap.size < ((wo.alloc (.cells #[.string x.s, .slice ur x.cs.length cr] 97)).drew).heap.size := by simp
            clear hHeld hHeld2 hHeld23
            generalize (wo.alloc (.cells #[.string x.s, .slice ur x.cs.length cr] 97)).drew = w5 at hb5 q1 hs5 ⊢
            have hR5 := hR.below hb5
            have hbw5 : Below w.heap.size w w5 := hb.trans (hb5.mono hzb)
            go_loopw [5] (fun i wi => ∃ n : Nat, n ≤ x.cs.length ∧ i = .int .i64 n ∧ Below w5.heap.size w5 wi ∧ colsB [] x.cs = colsB (x.cs.take n) (x.cs.drop n)) (fun i _ => x.cs.length - (intOf i).toNat)
            case atStart => exact ⟨0, Nat.zero_le _, rfl, Below.refl _ _, by simp⟩
            case round =>
              obtain ⟨n, hn, rfl, hbi, heq2⟩ := hrel
              have HE2 : Hid (colsB [] x.cs = colsB (x.cs.take n) (x.cs.drop n)) := heq2
              clear heq2
              have hzi := hbi.size
              have qi : wr.cell? ⟨wo.heap.size, 1, none⟩ = some (.slice ur x.cs.length cr) := (hbi.cell (p := ⟨wo.heap.size, 1, none⟩) hs5).trans q1
              have hsi : wo.heap.size < wr.heap.size := by omega
              have hbwi : Below w.heap.size w wr := hbw5.trans (hbi.mono hbw5.size)
              by_cases hnl : n < x.cs.length
              · have hRi := hR5.below hbi
                obtain ⟨m, hm⟩ : ∃ m, x.cs[n]? = some m := ⟨x.cs[n], by simp [hnl]⟩
                obtain ⟨g', hcut⟩ := hRi.cut hn
                obtain ⟨a', c', bc, oc, e, _, _, _, h4⟩ := hRi.pick
                obtain ⟨rfl, _, rfl⟩ : ur = a' ∧ x.cs.length = x.cs.length ∧ cr = c' := by injection e with e1 e2 e3; exact ⟨e1, e2, e3⟩
                obtain ⟨rfl, hbc, _, hcell⟩ := h4 n hnl
                have hcm1 := hcell n m hm
                have hms := hxw m (List.mem_of_getElem? hm)
                have HS2 : Hid (colsB (x.cs.take n) (x.cs.drop n) = (nameB m && !hasS (x.cs.take n) m && colsB (x.cs.take (n + 1)) (x.cs.drop (n + 1)))) := colsB_step hm
                have HC : Hid (okCols x.cs = colsB [] x.cs) := okCols_cols hin
                have hncr : n ≤ cr := by omega
                clear h4 hcell hm hRi hR5 hR hxw q1 hin e
                by_cases hnm2 : nameB m = true
                rotate_left
                · have hf2 : nameB m = false := by simpa using hnm2
                  have HF2 : Hid (nameB m = false) := hf2
                  go_wp2_with fail
                  refine wp_region_held_drew (S := (fun w' => w'.cell? ⟨wo.heap.size, 1, none⟩ = some (.slice (some ⟨bc, oc, none⟩) x.cs.length cr) ∧ w'.cell? ⟨bc, oc + n, none⟩ = some (.string m))) (by kernel_rfl) ?_ (fun hHeld => ?_)
                  · (try dsimp only); refine ⟨?_, ?_⟩ <;> first | (go_simp; done) | (exact cell_later (by assumption) (by go_simp))
                  refine takeYes (i := 0) (d := 49) (v := ?_) rfl rfl (by kernel_rfl) (by kernel_rfl) (by kernel_rfl) (fun _ _ _ h => h) (by rfl) (by assumption) ?_ ?_
                  rotate_left
                  · intro w' hSw; (try dsimp only at hSw); go_simp; try exact rfl
                  try simp only [List.setIfInBounds_toArray, List.set_cons_zero, List.set_cons_succ]
                  refine takeYes (i := 1) (d := 50) (v := ?_) rfl rfl (by kernel_rfl) (by kernel_rfl) (by kernel_rfl) (fun _ _ _ h => h) (by rfl) (by assumption) ?_ ?_
                  rotate_left
                  · intro w' hSw; (try dsimp only at hSw); go_simp; try exact rfl
                  try simp only [List.setIfInBounds_toArray, List.set_cons_zero, List.set_cons_succ]
                  refine takeYes (i := 2) (d := 51) (v := ?_) rfl rfl (by kernel_rfl) (by kernel_rfl) (by kernel_rfl) (fun _ _ _ h => h) (by rfl) (by assumption) ?_ ?_
                  rotate_left
                  · intro w' hSw; (try dsimp only at hSw); go_simp; try exact rfl
                  try simp only [List.setIfInBounds_toArray, List.set_cons_zero, List.set_cons_succ]
                  refine takeYes (i := 3) (d := 52) (v := ?_) rfl rfl (by kernel_rfl) (by kernel_rfl) (by kernel_rfl) (fun _ _ _ h => h) (by rfl) (by assumption) ?_ ?_
                  rotate_left
                  · intro w' hSw; (try dsimp only at hSw); go_simp; try exact rfl
                  try simp only [List.setIfInBounds_toArray, List.set_cons_zero, List.set_cons_succ]
                  refine takeYes (i := 4) (d := 53) (v := ?_) rfl rfl (by kernel_rfl) (by kernel_rfl) (by kernel_rfl) (fun _ _ _ h => h) (by rfl) (by assumption) ?_ ?_
                  rotate_left
                  · intro w' hSw; (try dsimp only at hSw); go_simp; try exact rfl
                  try simp only [List.setIfInBounds_toArray, List.set_cons_zero, List.set_cons_succ]
                  refine wpAnyH_ready (rs := [5]) (by kernel_rfl) (by simp) ?_
                  refine AllReadyH.cons rfl (fun K hK => ?_) AllReadyH.nil
                  go_simp
                  go_at_call 67
                  refine (specName_any m _ hms).mono ?_
                  rintro e w1 ⟨rfl, rfl⟩
                  try go_wp2_with fail
                  refine hK.out _ _ ?_ (fun hHeld5 => ?_)
                  · (try dsimp only); refine ⟨?_, ?_⟩ <;> first | (go_simp; done) | (exact cell_later (by assumption) (by go_simp))
                  clear hK
                  refine takeYes (i := 6) (d := 55) (v := ?_) rfl rfl (by kernel_rfl) (by kernel_rfl) (by kernel_rfl) (fun _ _ _ h => h) (by rfl) (by assumption) ?_ ?_
                  rotate_left
                  · intro w' hSw; (try dsimp only at hSw); go_simp; try exact rfl
                  try simp only [List.setIfInBounds_toArray, List.set_cons_zero, List.set_cons_succ]
                  refine takeYes (i := 7) (d := 56) (v := ?_) rfl rfl (by kernel_rfl) (by kernel_rfl) (by kernel_rfl) (fun _ _ _ h => h) (by rfl) (by assumption) ?_ ?_
                  rotate_left
                  · intro w' hSw; (try dsimp only at hSw); go_simp; try exact rfl
                  try simp only [List.setIfInBounds_toArray, List.set_cons_zero, List.set_cons_succ]
                  refine takeNo (i := 8) (d := 57) rfl rfl (by kernel_rfl) (by kernel_rfl) (by kernel_rfl) (fun _ _ _ h => h) (by rfl) (by assumption) ?_
                  try simp only [List.setIfInBounds_toArray, List.set_cons_zero, List.set_cons_succ]
                  refine takeNo (i := 9) (d := 58) rfl rfl (by kernel_rfl) (by kernel_rfl) (by kernel_rfl) (fun _ _ _ h => h) (by rfl) (by assumption) ?_
                  try simp only [List.setIfInBounds_toArray, List.set_cons_zero, List.set_cons_succ]
                  refine takeNo (i := 10) (d := 59) rfl rfl (by kernel_rfl) (by kernel_rfl) (by kernel_rfl) (fun _ _ _ h => h) (by rfl) (by assumption) ?_
                  try simp only [List.setIfInBounds_toArray, List.set_cons_zero, List.set_cons_succ]
                  refine takeNo (i := 11) (d := 60) rfl rfl (by kernel_rfl) (by kernel_rfl) (by kernel_rfl) (fun _ _ _ h => h) (by rfl) (by assumption) ?_
                  try simp only [List.setIfInBounds_toArray, List.set_cons_zero, List.set_cons_succ]
                  refine takeNo (i := 12) (d := 61) rfl rfl (by kernel_rfl) (by kernel_rfl) (by kernel_rfl) (fun _ _ _ h => h) (by rfl) (by assumption) ?_
                  try simp only [List.setIfInBounds_toArray, List.set_cons_zero, List.set_cons_succ]
                  refine takeNo (i := 13) (d := 62) rfl rfl (by kernel_rfl) (by kernel_rfl) (by kernel_rfl) (fun _ _ _ h => h) (by rfl) (by assumption) ?_
                  try simp only [List.setIfInBounds_toArray, List.set_cons_zero, List.set_cons_succ]
                  refine takeNo (i := 14) (d := 63) rfl rfl (by kernel_rfl) (by kernel_rfl) (by kernel_rfl) (fun _ _ _ h => h) (by rfl) (by assumption) ?_
                  try simp only [List.setIfInBounds_toArray, List.set_cons_zero, List.set_cons_succ]
                  refine takeNo (i := 15) (d := 64) rfl rfl (by kernel_rfl) (by kernel_rfl) (by kernel_rfl) (fun _ _ _ h => h) (by rfl) (by assumption) ?_
                  try simp only [List.setIfInBounds_toArray, List.set_cons_zero, List.set_cons_succ]
                  refine takeNo (i := 16) (d := 65) rfl rfl (by kernel_rfl) (by kernel_rfl) (by kernel_rfl) (fun _ _ _ h => h) (by rfl) (by assumption) ?_
                  try simp only [List.setIfInBounds_toArray, List.set_cons_zero, List.set_cons_succ]
                  refine wpAnyH_ready (rs := [17]) (by kernel_rfl) (by simp) ?_
                  refine AllReadyH.cons rfl (fun K hK => ?_) AllReadyH.nil
                  go_simp
                  refine hK.out _ _ ?_ (fun hHeld17 => ?_)
                  · (try dsimp only); refine ⟨?_, ?_⟩ <;> first | (go_simp; done) | (exact cell_later (by assumption) (by go_simp))
                  clear hK
                  refine takeYes (i := 18) (d := 67) (v := ?_) rfl rfl (by kernel_rfl) (by kernel_rfl) (by kernel_rfl) (fun _ _ _ h => h) (by rfl) (by assumption) ?_ ?_
                  rotate_left
                  · intro w' hSw; (try dsimp only at hSw); go_simp; try exact rfl
                  try simp only [List.setIfInBounds_toArray, List.set_cons_zero, List.set_cons_succ]
                  refine wpAnyH_done (by kernel_rfl) ?_ _
                  go_wp2
                  go_returns
                  refine ⟨ret_bool ?_, by repeat (first | exact Below.refl _ _ | refine Below.drew ?_ | refine Below.alloc ?_ (by first | (simp; done) | (simp; omega) | omega) _ | refine Below.setCell ?_ (by first | (simp; done) | (simp; omega) | omega) _ | refine bstep (by assumption) (by first | (simp; done) | (simp; omega) | omega) ?_)⟩
                  unfold okSch
                  rw [HE.out, HS.out, HC.out, HE2.out, HS2.out, HF2.out]
                  simp
                have HN2 : Hid (nameB m = true) := hnm2
                obtain ⟨hs, HH⟩ : ∃ hs, Hid (hasS (x.cs.take n) m = hs) := ⟨_, rfl⟩
                cases hs with
                | true =>
                  go_wp2_with fail
                  refine wp_region_held_drew (S := (fun w' => w'.cell? ⟨wo.heap.size, 1, none⟩ = some (.slice (some ⟨bc, oc, none⟩) x.cs.length cr) ∧ w'.cell? ⟨bc, oc + n, none⟩ = some (.string m))) (by kernel_rfl) ?_ (fun hHeld => ?_)
                  · (try dsimp only); refine ⟨?_, ?_⟩ <;> first | (go_simp; done) | (exact cell_later (by assumption) (by go_simp))
                  refine takeYes (i := 0) (d := 49) (v := ?_) rfl rfl (by kernel_rfl) (by kernel_rfl) (by kernel_rfl) (fun _ _ _ h => h) (by rfl) (by assumption) ?_ ?_
                  rotate_left
                  · intro w' hSw; (try dsimp only at hSw); go_simp; try exact rfl
                  try simp only [List.setIfInBounds_toArray, List.set_cons_zero, List.set_cons_succ]
                  refine takeYes (i := 1) (d := 50) (v := ?_) rfl rfl (by kernel_rfl) (by kernel_rfl) (by kernel_rfl) (fun _ _ _ h => h) (by rfl) (by assumption) ?_ ?_
                  rotate_left
                  · intro w' hSw; (try dsimp only at hSw); go_simp; try exact rfl
                  try simp only [List.setIfInBounds_toArray, List.set_cons_zero, List.set_cons_succ]
                  refine takeYes (i := 2) (d := 51) (v := ?_) rfl rfl (by kernel_rfl) (by kernel_rfl) (by kernel_rfl) (fun _ _ _ h => h) (by rfl) (by assumption) ?_ ?_
                  rotate_left
                  · intro w' hSw; (try dsimp only at hSw); go_simp; try exact rfl
                  try simp only [List.setIfInBounds_toArray, List.set_cons_zero, List.set_cons_succ]
                  refine takeYes (i := 3) (d := 52) (v := ?_) rfl rfl (by kernel_rfl) (by kernel_rfl) (by kernel_rfl) (fun _ _ _ h => h) (by rfl) (by assumption) ?_ ?_
                  rotate_left
                  · intro w' hSw; (try dsimp only at hSw); go_simp; try exact rfl
                  try simp only [List.setIfInBounds_toArray, List.set_cons_zero, List.set_cons_succ]
                  refine takeYes (i := 4) (d := 53) (v := ?_) rfl rfl (by kernel_rfl) (by kernel_rfl) (by kernel_rfl) (fun _ _ _ h => h) (by rfl) (by assumption) ?_ ?_
                  rotate_left
                  · intro w' hSw; (try dsimp only at hSw); go_simp; try exact rfl
                  try simp only [List.setIfInBounds_toArray, List.set_cons_zero, List.set_cons_succ]
                  refine wpAnyH_ready (rs := [5]) (by kernel_rfl) (by simp) ?_
                  refine AllReadyH.cons rfl (fun K hK => ?_) AllReadyH.nil
                  go_simp
                  go_at_call 67
                  refine (specName_any m _ hms).mono ?_
                  rintro e w1 ⟨rfl, rfl⟩
                  try go_wp2_with fail
                  refine hK.out _ _ ?_ (fun hHeld5 => ?_)
                  · (try dsimp only); refine ⟨?_, ?_⟩ <;> first | (go_simp; done) | (exact cell_later (by assumption) (by go_simp))
                  clear hK
                  refine takeYes (i := 6) (d := 55) (v := ?_) rfl rfl (by kernel_rfl) (by kernel_rfl) (by kernel_rfl) (fun _ _ _ h => h) (by rfl) (by assumption) ?_ ?_
                  rotate_left
                  · intro w' hSw; (try dsimp only at hSw); go_simp; try exact rfl
                  try simp only [List.setIfInBounds_toArray, List.set_cons_zero, List.set_cons_succ]
                  refine takeYes (i := 7) (d := 56) (v := ?_) rfl rfl (by kernel_rfl) (by kernel_rfl) (by kernel_rfl) (fun _ _ _ h => h) (by rfl) (by assumption) ?_ ?_
                  rotate_left
                  · intro w' hSw; (try dsimp only at hSw); go_simp; try exact rfl
                  try simp only [List.setIfInBounds_toArray, List.set_cons_zero, List.set_cons_succ]
                  refine takeYes (i := 8) (d := 57) (v := ?_) rfl rfl (by kernel_rfl) (by kernel_rfl) (by kernel_rfl) (fun _ _ _ h => h) (by rfl) (by assumption) ?_ ?_
                  rotate_left
                  · intro w' hSw; (try dsimp only at hSw); go_simp; try exact rfl
                  try simp only [List.setIfInBounds_toArray, List.set_cons_zero, List.set_cons_succ]
                  refine takeYes (i := 9) (d := 58) (v := ?_) rfl rfl (by kernel_rfl) (by kernel_rfl) (by kernel_rfl) (fun _ _ _ h => h) (by rfl) (by assumption) ?_ ?_
                  rotate_left
                  · intro w' hSw; (try dsimp only at hSw); go_simp; try exact rfl
                  try simp only [List.setIfInBounds_toArray, List.set_cons_zero, List.set_cons_succ]
                  refine takeYes (i := 10) (d := 59) (v := ?_) rfl rfl (by kernel_rfl) (by kernel_rfl) (by kernel_rfl) (fun _ _ _ h => h) (by rfl) (by assumption) ?_ ?_
                  rotate_left
                  · intro w' hSw; (try dsimp only at hSw); go_simp; try exact rfl
                  try simp only [List.setIfInBounds_toArray, List.set_cons_zero, List.set_cons_succ]
                  refine takeYes (i := 11) (d := 60) (v := ?_) rfl rfl (by kernel_rfl) (by kernel_rfl) (by kernel_rfl) (fun _ _ _ h => h) (by rfl) (by assumption) ?_ ?_
                  rotate_left
                  · intro w' hSw; (try dsimp only at hSw); go_simp; try exact rfl
                  try simp only [List.setIfInBounds_toArray, List.set_cons_zero, List.set_cons_succ]
                  refine takeYes (i := 12) (d := 61) (v := ?_) rfl rfl (by kernel_rfl) (by kernel_rfl) (by kernel_rfl) (fun _ _ _ h => h) (by rfl) (by assumption) ?_ ?_
                  rotate_left
                  · intro w' hSw; (try dsimp only at hSw); go_simp; try exact rfl
                  try simp only [List.setIfInBounds_toArray, List.set_cons_zero, List.set_cons_succ]
                  refine takeYes (i := 13) (d := 62) (v := ?_) rfl rfl (by kernel_rfl) (by kernel_rfl) (by kernel_rfl) (fun _ _ _ h => h) (by rfl) (by assumption) ?_ ?_
                  rotate_left
                  · intro w' hSw; (try dsimp only at hSw); go_simp; try exact rfl
                  try simp only [List.setIfInBounds_toArray, List.set_cons_zero, List.set_cons_succ]
                  refine takeYes (i := 14) (d := 63) (v := ?_) rfl rfl (by kernel_rfl) (by kernel_rfl) (by kernel_rfl) (fun _ _ _ h => h) (by rfl) (by assumption) ?_ ?_
                  rotate_left
                  · intro w' hSw; (try dsimp only at hSw); go_simp; try exact rfl
                  try simp only [List.setIfInBounds_toArray, List.set_cons_zero, List.set_cons_succ]
                  refine takeYes (i := 15) (d := 64) (v := ?_) rfl rfl (by kernel_rfl) (by kernel_rfl) (by kernel_rfl) (fun _ _ _ h => h) (by rfl) (by assumption) ?_ ?_
                  rotate_left
                  · intro w' hSw; (try dsimp only at hSw); go_simp; try exact rfl
                  try simp only [List.setIfInBounds_toArray, List.set_cons_zero, List.set_cons_succ]
                  refine takeYes (i := 16) (d := 65) (v := ?_) rfl rfl (by kernel_rfl) (by kernel_rfl) (by kernel_rfl) (fun _ _ _ h => h) (by rfl) (by assumption) ?_ ?_
                  rotate_left
                  · intro w' hSw; (try dsimp only at hSw); go_simp; try exact rfl
                  try simp only [List.setIfInBounds_toArray, List.set_cons_zero, List.set_cons_succ]
                  refine wpAnyH_ready (rs := [17]) (by kernel_rfl) (by simp) ?_
                  refine AllReadyH.cons rfl (fun K hK => ?_) AllReadyH.nil
                  go_simp
                  go_at_call 111
                  refine Calls.mono (l03HasF_any _ _ g' m _ (hcut.below (by repeat (first | exact Below.refl _ _ | refine Below.drew ?_ | refine Below.alloc ?_ (by first | (simp; done) | (simp; omega) | omega) _ | refine Below.setCell ?_ (by first | (simp; done) | (simp; omega) | omega) _ | refine bstep (by assumption) (by first | (simp; done) | (simp; omega) | omega) ?_)))) ?_
                  rw [HH.out]
                  rintro e w1 ⟨rfl, rfl⟩
                  try go_wp2_with fail
                  refine hK.out _ _ ?_ (fun hHeld17 => ?_)
                  · (try dsimp only); refine ⟨?_, ?_⟩ <;> first | (go_simp; done) | (exact cell_later (by assumption) (by go_simp))
                  clear hK
                  refine takeYes (i := 18) (d := 67) (v := ?_) rfl rfl (by kernel_rfl) (by kernel_rfl) (by kernel_rfl) (fun _ _ _ h => h) (by rfl) (by assumption) ?_ ?_
                  rotate_left
                  · intro w' hSw; (try dsimp only at hSw); go_simp; try exact rfl
                  try simp only [List.setIfInBounds_toArray, List.set_cons_zero, List.set_cons_succ]
                  refine wpAnyH_done (by kernel_rfl) ?_ _
                  go_wp2
                  go_returns
                  refine ⟨ret_bool ?_, by repeat (first | exact Below.refl _ _ | refine Below.drew ?_ | refine Below.alloc ?_ (by first | (simp; done) | (simp; omega) | omega) _ | refine Below.setCell ?_ (by first | (simp; done) | (simp; omega) | omega) _ | refine bstep (by assumption) (by first | (simp; done) | (simp; omega) | omega) ?_)⟩
                  unfold okSch
                  rw [HE.out, HS.out, HC.out, HE2.out, HS2.out, HN2.out, HH.out]
                  simp
                | false =>
                  go_wp2_with fail
                  refine wp_region_held_drew (S := (fun w' => w'.cell? ⟨wo.heap.size, 1, none⟩ = some (.slice (some ⟨bc, oc, none⟩) x.cs.length cr) ∧ w'.cell? ⟨bc, oc + n, none⟩ = some (.string m))) (by kernel_rfl) ?_ (fun hHeld => ?_)
                  · (try dsimp only); refine ⟨?_, ?_⟩ <;> first | (go_simp; done) | (exact cell_later (by assumption) (by go_simp))
                  refine takeYes (i := 0) (d := 49) (v := ?_) rfl rfl (by kernel_rfl) (by kernel_rfl) (by kernel_rfl) (fun _ _ _ h => h) (by rfl) (by assumption) ?_ ?_
                  rotate_left
                  · intro w' hSw; (try dsimp only at hSw); go_simp; try exact rfl
                  try simp only [List.setIfInBounds_toArray, List.set_cons_zero, List.set_cons_succ]
                  refine takeYes (i := 1) (d := 50) (v := ?_) rfl rfl (by kernel_rfl) (by kernel_rfl) (by kernel_rfl) (fun _ _ _ h => h) (by rfl) (by assumption) ?_ ?_
                  rotate_left
                  · intro w' hSw; (try dsimp only at hSw); go_simp; try exact rfl
                  try simp only [List.setIfInBounds_toArray, List.set_cons_zero, List.set_cons_succ]
                  refine takeYes (i := 2) (d := 51) (v := ?_) rfl rfl (by kernel_rfl) (by kernel_rfl) (by kernel_rfl) (fun _ _ _ h => h) (by rfl) (by assumption) ?_ ?_
                  rotate_left
                  · intro w' hSw; (try dsimp only at hSw); go_simp; try exact rfl
                  try simp only [List.setIfInBounds_toArray, List.set_cons_zero, List.set_cons_succ]
                  refine takeYes (i := 3) (d := 52) (v := ?_) rfl rfl (by kernel_rfl) (by kernel_rfl) (by kernel_rfl) (fun _ _ _ h => h) (by rfl) (by assumption) ?_ ?_
                  rotate_left
                  · intro w' hSw; (try dsimp only at hSw); go_simp; try exact rfl
                  try simp only [List.setIfInBounds_toArray, List.set_cons_zero, List.set_cons_succ]
                  refine takeYes (i := 4) (d := 53) (v := ?_) rfl rfl (by kernel_rfl) (by kernel_rfl) (by kernel_rfl) (fun _ _ _ h => h) (by rfl) (by assumption) ?_ ?_
                  rotate_left
                  · intro w' hSw; (try dsimp only at hSw); go_simp; try exact rfl
                  try simp only [List.setIfInBounds_toArray, List.set_cons_zero, List.set_cons_succ]
                  refine wpAnyH_ready (rs := [5]) (by kernel_rfl) (by simp) ?_
                  refine AllReadyH.cons rfl (fun K hK => ?_) AllReadyH.nil
                  go_simp
                  go_at_call 67
                  refine (specName_any m _ hms).mono ?_
                  rintro e w1 ⟨rfl, rfl⟩
                  try go_wp2_with fail
                  refine hK.out _ _ ?_ (fun hHeld5 => ?_)
                  · (try dsimp only); refine ⟨?_, ?_⟩ <;> first | (go_simp; done) | (exact cell_later (by assumption) (by go_simp))
                  clear hK
                  refine takeYes (i := 6) (d := 55) (v := ?_) rfl rfl (by kernel_rfl) (by kernel_rfl) (by kernel_rfl) (fun _ _ _ h => h) (by rfl) (by assumption) ?_ ?_
                  rotate_left
                  · intro w' hSw; (try dsimp only at hSw); go_simp; try exact rfl
                  try simp only [List.setIfInBounds_toArray, List.set_cons_zero, List.set_cons_succ]
                  refine takeYes (i := 7) (d := 56) (v := ?_) rfl rfl (by kernel_rfl) (by kernel_rfl) (by kernel_rfl) (fun _ _ _ h => h) (by rfl) (by assumption) ?_ ?_
                  rotate_left
                  · intro w' hSw; (try dsimp only at hSw); go_simp; try exact rfl
                  try simp only [List.setIfInBounds_toArray, List.set_cons_zero, List.set_cons_succ]
                  refine takeYes (i := 8) (d := 57) (v := ?_) rfl rfl (by kernel_rfl) (by kernel_rfl) (by kernel_rfl) (fun _ _ _ h => h) (by rfl) (by assumption) ?_ ?_
                  rotate_left
                  · intro w' hSw; (try dsimp only at hSw); go_simp; try exact rfl
                  try simp only [List.setIfInBounds_toArray, List.set_cons_zero, List.set_cons_succ]
                  refine takeYes (i := 9) (d := 58) (v := ?_) rfl rfl (by kernel_rfl) (by kernel_rfl) (by kernel_rfl) (fun _ _ _ h => h) (by rfl) (by assumption) ?_ ?_
                  rotate_left
                  · intro w' hSw; (try dsimp only at hSw); go_simp; try exact rfl
                  try simp only [List.setIfInBounds_toArray, List.set_cons_zero, List.set_cons_succ]
                  refine takeYes (i := 10) (d := 59) (v := ?_) rfl rfl (by kernel_rfl) (by kernel_rfl) (by kernel_rfl) (fun _ _ _ h => h) (by rfl) (by assumption) ?_ ?_
                  rotate_left
                  · intro w' hSw; (try dsimp only at hSw); go_simp; try exact rfl
                  try simp only [List.setIfInBounds_toArray, List.set_cons_zero, List.set_cons_succ]
                  refine takeYes (i := 11) (d := 60) (v := ?_) rfl rfl (by kernel_rfl) (by kernel_rfl) (by kernel_rfl) (fun _ _ _ h => h) (by rfl) (by assumption) ?_ ?_
                  rotate_left
                  · intro w' hSw; (try dsimp only at hSw); go_simp; try exact rfl
                  try simp only [List.setIfInBounds_toArray, List.set_cons_zero, List.set_cons_succ]
                  refine takeYes (i := 12) (d := 61) (v := ?_) rfl rfl (by kernel_rfl) (by kernel_rfl) (by kernel_rfl) (fun _ _ _ h => h) (by rfl) (by assumption) ?_ ?_
                  rotate_left
                  · intro w' hSw; (try dsimp only at hSw); go_simp; try exact rfl
                  try simp only [List.setIfInBounds_toArray, List.set_cons_zero, List.set_cons_succ]
                  refine takeYes (i := 13) (d := 62) (v := ?_) rfl rfl (by kernel_rfl) (by kernel_rfl) (by kernel_rfl) (fun _ _ _ h => h) (by rfl) (by assumption) ?_ ?_
                  rotate_left
                  · intro w' hSw; (try dsimp only at hSw); go_simp; try exact rfl
                  try simp only [List.setIfInBounds_toArray, List.set_cons_zero, List.set_cons_succ]
                  refine takeYes (i := 14) (d := 63) (v := ?_) rfl rfl (by kernel_rfl) (by kernel_rfl) (by kernel_rfl) (fun _ _ _ h => h) (by rfl) (by assumption) ?_ ?_
                  rotate_left
                  · intro w' hSw; (try dsimp only at hSw); go_simp; try exact rfl
                  try simp only [List.setIfInBounds_toArray, List.set_cons_zero, List.set_cons_succ]
                  refine takeYes (i := 15) (d := 64) (v := ?_) rfl rfl (by kernel_rfl) (by kernel_rfl) (by kernel_rfl) (fun _ _ _ h => h) (by rfl) (by assumption) ?_ ?_
                  rotate_left
                  · intro w' hSw; (try dsimp only at hSw); go_simp; try exact rfl
                  try simp only [List.setIfInBounds_toArray, List.set_cons_zero, List.set_cons_succ]
                  refine takeYes (i := 16) (d := 65) (v := ?_) rfl rfl (by kernel_rfl) (by kernel_rfl) (by kernel_rfl) (fun _ _ _ h => h) (by rfl) (by assumption) ?_ ?_
                  rotate_left
                  · intro w' hSw; (try dsimp only at hSw); go_simp; try exact rfl
                  try simp only [List.setIfInBounds_toArray, List.set_cons_zero, List.set_cons_succ]
                  refine wpAnyH_ready (rs := [17]) (by kernel_rfl) (by simp) ?_
                  refine AllReadyH.cons rfl (fun K hK => ?_) AllReadyH.nil
                  go_simp
                  go_at_call 111
                  refine Calls.mono (l03HasF_any _ _ g' m _ (hcut.below (by repeat (first | exact Below.refl _ _ | refine Below.drew ?_ | refine Below.alloc ?_ (by first | (simp; done) | (simp; omega) | omega) _ | refine Below.setCell ?_ (by first | (simp; done) | (simp; omega) | omega) _ | refine bstep (by assumption) (by first | (simp; done) | (simp; omega) | omega) ?_)))) ?_
                  rw [HH.out]
                  rintro e w1 ⟨rfl, rfl⟩
                  try go_wp2_with fail
                  refine hK.out _ _ ?_ (fun hHeld17 => ?_)
                  · (try dsimp only); refine ⟨?_, ?_⟩ <;> first | (go_simp; done) | (exact cell_later (by assumption) (by go_simp))
                  clear hK
                  refine takeYes (i := 18) (d := 67) (v := ?_) rfl rfl (by kernel_rfl) (by kernel_rfl) (by kernel_rfl) (fun _ _ _ h => h) (by rfl) (by assumption) ?_ ?_
                  rotate_left
                  · intro w' hSw; (try dsimp only at hSw); go_simp; try exact rfl
                  try simp only [List.setIfInBounds_toArray, List.set_cons_zero, List.set_cons_succ]
                  refine wpAnyH_done (by kernel_rfl) ?_ _
                  go_wp2
                  refine ⟨⟨n + 1, hnl, by simp, by (repeat (first | exact hbi | refine Below.drew ?_)), ?_⟩, by simp [intOf]; omega⟩
                  rw [HE2.out, HS2.out, HN2.out, HH.out]
                  simp
              · have HC : Hid (okCols x.cs = true) := by
                  show okCols x.cs = true
                  rw [okCols_cols hin, HE2.out, List.drop_eq_nil_of_le (by omega)]; rfl
                clear hR5 hR hxw hin q1
                go_wp2_with fail
                refine ⟨⟨j + 1 + 1, (j : Int) + 1 + 1, hlt, by omega, by simp, by (repeat (first | exact hbwi | refine Below.drew ?_)), ?_⟩, by simp [intOf]; omega⟩
                rw [HE.out, HS.out, HQ.out, hnm, HC.out, hcmp]
                simp
    · have HN : Hid (okHs none rs = true) := by rw [HE.out, List.drop_eq_nil_of_le (by omega)]; rfl
      clear ha hw
      go_wp2
      go_returns
      refine ⟨ret_bool ?_, hb⟩
      unfold okSch
      rw [HN.out, Bool.and_true]
      first | rfl | (rw [Bool.eq_iff_iff]; simp; omega) | (simp; omega)
end Go.Proofs.Ytdkbhoichmcodaa
