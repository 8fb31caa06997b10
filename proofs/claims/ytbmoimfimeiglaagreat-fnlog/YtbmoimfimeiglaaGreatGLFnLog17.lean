/- Own texts, joined: contracts that the law's proof goes by. -/
import Derived.Test.YtbmoimfimeiglaaGreatGLFnLog16
import Derived.Handy
import Derived.Test.YtbmoimfimeiglaaGreatGLFnLog19
import Derived.Test.YtbmoimfimeiglaaGreatGLFnLog7
import Derived.Test.YtbmoimfimeiglaaGreatGLFnLog24
import Derived.Deep.RegionHeld3
namespace Go.Proofs.YtbmoimfimeiglaaGreat
open Go.RowKit
set_option linter.unusedVariables false
def szN (x : Int) : Nat → List Int
  | 0 => []
  | n + 1 => (x / 256 ^ n % 256) :: szN x n
theorem szN_len (x : Int) (n : Nat) : (szN x n).length = n := by
  induction n with
  | zero => rfl
  | succ n ih => simp [szN, ih]
theorem szN_bd (x : Int) (n : Nat) : ∀ y ∈ szN x n, 0 ≤ y ∧ y < 256 := by
  induction n with
  | zero => intro y hy; cases hy
  | succ n ih =>
    intro y hy
    rcases List.mem_cons.1 hy with rfl | h
    · omega
    · exact ih y h
def txN (s : ByteArray) : List Int := nb s.data.toList
theorem txN_len (s : ByteArray) : (txN s).length = s.size := by simp [txN, nb_len]
theorem nums_app (a b : List Int) : strOfNums (a ++ b) = strOfNums a ++ strOfNums b := by
  apply ByteArray.ext
  simp [strOfNums, ByteArray.data_append]
theorem nums_txN (s : ByteArray) : strOfNums (txN s) = s := by
  have := nums_append [] s
  have e : strOfNums [] = ⟨#[]⟩ := rfl
  rw [List.nil_append, e] at this
  rw [show txN s = s.data.toList.map (fun b => (b.toNat : Int)) from rfl, this]
  apply ByteArray.ext
  simp [ByteArray.data_append]
theorem nums_cons (c : Int) (xs : List Int) : strOfNums [c] ++ strOfNums xs = strOfNums (c :: xs) := by rw [← nums_app]; rfl
def tN (s : ByteArray) (n : Nat) : List Int := szN s.size n ++ txN s
theorem tN_len (s : ByteArray) (n : Nat) : (tN s n).length = n + s.size := by simp [tN, szN_len, txN_len]
theorem nums_tN (s : ByteArray) (n : Nat) : strOfNums (szN s.size n) ++ s = strOfNums (tN s n) := by rw [tN, nums_app, nums_txN]
theorem pow_step (x : Int) (k : Nat) : x / 256 ^ k / 256 = x / 256 ^ (k + 1) := by
  rw [Int.pow_succ, Int.ediv_ediv_of_nonneg (Int.le_of_lt (Int.pow_pos (by decide)))]
set_option maxHeartbeats 2000000 in
set_option maxRecDepth 100000 in
theorem l10Size_any (x : Int) (n : Nat) (w : World) (h0 : 0 ≤ x) (hx : x ≤ 9223372036854775807) (hn : n ≤ 8) :
    Calls Tryz.prog 38 #[.int .i64 x, .int .i64 n] w fun e w' => e = .returned (.string (strOfNums (szN x n))) ∧ Below w.heap.size w w' := by
  go_enter Tryz.func38, Tryz.ntmps38
  go_wp2_with fail
  go_loopw [0, 5, 6] (fun y o i wr => ∃ (k : Nat) (z : Int) (r : ByteArray), k ≤ n ∧ y = .int .i64 z ∧ o = .string r ∧ i = .int .i64 k ∧ Hid (z = x / 256 ^ k) ∧ Hid (r = strOfNums (szN x k)) ∧ 0 ≤ z ∧ z ≤ 9223372036854775807 ∧ r.size = k ∧ Below w.heap.size w wr) (fun _ _ i _ => n - (intOf i).toNat)
  case atStart => exact ⟨0, x, ⟨#[]⟩, Nat.zero_le _, rfl, rfl, rfl, by simp [Hid], rfl, h0, hx, rfl, Below.refl _ _⟩
  case round =>
    obtain ⟨k, z, r, hk, rfl, rfl, rfl, HZ, HR, z0, z1, hr, hb⟩ := hrel
    by_cases hlt : k < n
    · have hs : r.size ≤ 8 := by omega
      have hcv0 := conv_own [z % 256] (own_litg wr w.heap.size wr.heap.size [z % 256] rfl hb.size (by simp)) (by simp)
      simp only [List.map_cons, List.map_nil, List.length_cons, List.length_nil, Nat.zero_add] at hcv0
      have hsz : ((strOfNums [z % 256]).size : Int) = 1 := by rw [nums_size]; rfl
      have hm : z.tmod 256 = z % 256 := Int.tmod_eq_emod_of_nonneg z0
      have hd : z.tdiv 256 = z / 256 := Int.tdiv_eq_ediv_of_nonneg z0
      have hm0 : 0 ≤ z % 256 ∧ z % 256 < 256 := by omega
      have HS : Hid (r.size = k) := hr
      clear hr
      go_wp2_with fail
      refine ⟨⟨k + 1, z / 256, strOfNums [z % 256] ++ r, hlt, rfl, rfl, by simp, ?_, ?_, by omega, by omega, ?_, hb.alloc hb.size _⟩, by simp [intOf]; omega⟩
      · show z / 256 = x / 256 ^ (k + 1)
        rw [HZ.out, pow_step]
      · show strOfNums [z % 256] ++ r = _
        rw [HR.out, nums_cons, HZ.out]; rfl
      · rw [ByteArray.size_append, nums_size]
        have := HS.out
        simp; omega
    · obtain rfl : k = n := by omega
      go_wp2_with fail
      go_returns
      exact ⟨by rw [← HR.out]; rfl, hb⟩
set_option maxHeartbeats 2000000 in
set_option maxRecDepth 100000 in
theorem l10Text_any (s : ByteArray) (n : Nat) (w : World) (hs : s.size ≤ 281474976710656) (hn : n ≤ 8) :
    Calls Tryz.prog 39 #[.string s, .int .i64 n] w fun e w' => e = .returned (.string (strOfNums (tN s n))) ∧ Below w.heap.size w w' := by
  have hsz : ((strOfNums (szN s.size n)).size : Int) ≤ 8 := by rw [nums_size, szN_len]; omega
  have HT : Hid (strOfNums (szN s.size n) ++ s = strOfNums (tN s n)) := nums_tN s n
  go_enter Tryz.func39, Tryz.ntmps39
  go_wp2_with fail
  refine Calls.mono (l10Size_any s.size n _ (by omega) (by omega) hn) ?_
  rintro e w1 ⟨rfl, hb1⟩
  go_wp2_with fail
  go_returns
  exact ⟨by rw [← HT.out]; rfl, hb1⟩
end Go.Proofs.YtbmoimfimeiglaaGreat
namespace Go.Proofs.YtbmoimfimeiglaaGreat
open Go.RowKit
set_option linter.unusedVariables false
def csL (cs : List ByteArray) : List Int := cs.flatMap fun c => tN c 2
def rlL (r : R3) : List Int := tN r.s 2 ++ tN (putB r.W r.cs) 4
def rlsL (rs : List R3) : List Int := rs.flatMap rlL
def hdL (x : T5) : List Int := szN x.k 1 ++ tN x.s 2 ++ szN x.cs.length 1
def mdL (x : T5) : List Int := hdL x ++ csL x.cs ++ tN x.q 2 ++ szN x.rs.length 1
def stepL (x : T5) : List Int := mdL x ++ rlsL x.rs
def putT (x : T5) : ByteArray := if okStep x = true then strOfNums (stepL x) else ⟨#[]⟩
theorem csL_take {cs : List ByteArray} {k : Nat} {c : ByteArray} (h : cs[k]? = some c) : csL (cs.take (k + 1)) = csL (cs.take k) ++ tN c 2 := by
  obtain ⟨hk, rfl⟩ := List.getElem?_eq_some_iff.1 h
  rw [List.take_succ_eq_append_getElem hk]
  unfold csL
  rw [List.flatMap_append, List.flatMap_singleton]
theorem rlsL_take {rs : List R3} {k : Nat} {r : R3} (h : rs[k]? = some r) : rlsL (rs.take (k + 1)) = rlsL (rs.take k) ++ rlL r := by
  obtain ⟨hk, rfl⟩ := List.getElem?_eq_some_iff.1 h
  rw [List.take_succ_eq_append_getElem hk]
  unfold rlsL
  rw [List.flatMap_append, List.flatMap_singleton]
theorem nameB_size {s : ByteArray} (h : nameB s = true) : s.size ≤ 10 := by
  unfold nameB at h
  rw [Bool.and_eq_true] at h
  have := h.2
  simp [inB] at this
  omega
theorem colsB_names : ∀ {cs pre : List ByteArray}, colsB pre cs = true → ∀ c ∈ cs, nameB c = true
  | [], _, _, c, hc => by cases hc
  | x :: r, pre, h, c, hc => by
    rw [colsB, Bool.and_eq_true, Bool.and_eq_true] at h
    rcases List.mem_cons.1 hc with rfl | hc
    · exact h.1.1
    · exact colsB_names h.2 c hc
theorem okTs_each : ∀ {rs : List R3} {p : Option R3}, okTs p rs = true → ∀ r ∈ rs, nameB r.s = true ∧ okBag r.W r.cs = true
  | [], _, _, c, hc => by cases hc
  | x :: r, p, h, c, hc => by
    rw [okTs, Bool.and_eq_true, Bool.and_eq_true, Bool.and_eq_true] at h
    rcases List.mem_cons.1 hc with rfl | hc
    · exact ⟨h.1.1.1, h.1.1.2⟩
    · exact okTs_each h.2 c hc
theorem putB_size (W : Int) (cs : List C2) : (putB W cs).size ≤ 493201 := by
  unfold putB
  split
  · rename_i h
    obtain ⟨_, _, h1, h2⟩ := okBag_facts h
    rw [nums_size]
    have := csN_len h2
    simp [bagN]
    omega
  · exact Nat.zero_le _
structure Bnd (x : T5) : Prop where
  k0 : 0 ≤ x.k
  k3 : x.k ≤ 3
  s : x.s.size ≤ 10
  cl : x.cs.length ≤ 12
  c : ∀ c ∈ x.cs, c.size ≤ 10
  q : x.q.size ≤ 1000
  rl : x.rs.length ≤ 20
  r : ∀ r ∈ x.rs, r.s.size ≤ 10
theorem empty_size {s : ByteArray} (h : s.toList.isEmpty = true) : s.size = 0 := by
  rw [ByteArray.toList_eq] at h
  have : s.data.toList = [] := by simpa using h
  have e : s.data.size = 0 := by rw [← Array.length_toList, this]; rfl
  exact e
theorem okStep_bnd {x : T5} (h : okStep x = true) : Bnd x := by
  unfold okStep at h
  split at h
  · rename_i hk
    simp only [Bool.and_eq_true] at h
    obtain ⟨⟨h1, h2⟩, h3⟩ := h
    simp only [okSch, okHs, okPrevH, Bool.and_true, Bool.and_eq_true] at h1
    obtain ⟨_, h4, h5⟩ := h1
    simp only [okCols, Bool.and_eq_true] at h5
    have h6 := h5.1
    simp [inB] at h6
    have h7 : x.rs = [] := by simpa using h3
    exact ⟨by omega, by omega, nameB_size h4, by omega, fun c hc => nameB_size (colsB_names h5.2 c hc), by rw [empty_size h2]; omega, by rw [h7]; simp, (by rw [h7]; intro r hr; cases hr)⟩
  split at h
  · rename_i _ hk
    simp only [Bool.and_eq_true] at h
    obtain ⟨⟨⟨h1, h2⟩, h4⟩, h3⟩ := h
    have h7 : x.rs = [] := by simpa using h3
    have h8 : x.cs = [] := by simpa using h2
    exact ⟨by omega, by omega, nameB_size h1, by rw [h8]; simp, (by rw [h8]; intro r hr; cases hr), by simpa using h4, by rw [h7]; simp, (by rw [h7]; intro r hr; cases hr)⟩
  split at h
  · rename_i _ _ hk
    simp only [Bool.and_eq_true] at h
    obtain ⟨⟨⟨h1, h2⟩, h4⟩, h3⟩ := h
    have h7 : x.rs = [] := by simpa using h3
    have h8 : x.cs = [] := by simpa using h2
    exact ⟨by omega, by omega, nameB_size h1, by rw [h8]; simp, (by rw [h8]; intro r hr; cases hr), by rw [empty_size h4]; omega, by rw [h7]; simp, (by rw [h7]; intro r hr; cases hr)⟩
  split at h
  · rename_i _ _ _ hk
    simp only [Bool.and_eq_true] at h
    obtain ⟨⟨⟨h1, h2⟩, h4⟩, h3⟩ := h
    have h8 : x.cs = [] := by simpa using h2
    simp only [okRels, Bool.and_eq_true] at h3
    have h6 := h3.1
    simp [inB] at h6
    exact ⟨by omega, by omega, by rw [empty_size h1]; omega, by rw [h8]; simp, (by rw [h8]; intro r hr; cases hr), by rw [empty_size h4]; omega, by omega, fun r hr => nameB_size (okTs_each h3.2 r hr).1⟩
  · cases h
theorem csL_len {cs : List ByteArray} (h : ∀ c ∈ cs, c.size ≤ 10) : (csL cs).length ≤ 12 * cs.length := by
  induction cs with
  | nil => simp [csL]
  | cons a l ih =>
    have h1 := ih fun c hc => h c (List.mem_cons_of_mem _ hc)
    have h2 := h a List.mem_cons_self
    simp only [csL, List.flatMap_cons, List.length_append, tN_len, List.length_cons] at h1 ⊢
    omega
theorem rlL_len {r : R3} (h : r.s.size ≤ 10) : (rlL r).length ≤ 493300 := by
  have := putB_size r.W r.cs
  simp only [rlL, List.length_append, tN_len]
  omega
theorem rlsL_len {rs : List R3} (h : ∀ r ∈ rs, r.s.size ≤ 10) : (rlsL rs).length ≤ 493300 * rs.length := by
  induction rs with
  | nil => simp [rlsL]
  | cons a l ih =>
    have h1 := ih fun c hc => h c (List.mem_cons_of_mem _ hc)
    have h2 := rlL_len (h a List.mem_cons_self)
    simp only [rlsL, List.flatMap_cons, List.length_append, List.length_cons] at h1 ⊢
    omega
theorem hdL_len {x : T5} (h : Bnd x) : (hdL x).length ≤ 14 := by
  have := h.s
  simp only [hdL, List.length_append, tN_len, szN_len]
  omega
theorem hc_len {x : T5} (h : Bnd x) (k : Nat) : (hdL x ++ csL (x.cs.take k)).length ≤ 158 := by
  have h1 := hdL_len h
  have h2 := csL_len (cs := x.cs.take k) fun c hc => h.c c (List.mem_of_mem_take hc)
  have h3 := h.cl
  rw [List.length_append]
  rw [List.length_take] at h2
  omega
theorem mdL_len {x : T5} (h : Bnd x) : (mdL x).length ≤ 1161 := by
  have h1 := hc_len h x.cs.length
  have h2 := h.q
  rw [List.take_length, List.length_append] at h1
  simp only [mdL, List.length_append, tN_len, szN_len]
  omega
theorem md_len {x : T5} (h : Bnd x) (k : Nat) : (mdL x ++ rlsL (x.rs.take k)).length ≤ 10000000 := by
  have h1 := mdL_len h
  have h2 := rlsL_len (rs := x.rs.take k) fun c hc => h.r c (List.mem_of_mem_take hc)
  have h3 := h.rl
  rw [List.length_append]
  rw [List.length_take] at h2
  omega
theorem stepL_len {x : T5} (h : Bnd x) : (stepL x).length ≤ 10000000 := by
  have := md_len h x.rs.length
  rwa [List.take_length] at this
theorem mdL_ne (x : T5) : stepL x ≠ [] := by
  intro e
  have : (stepL x).length = 0 := by rw [e]; rfl
  simp only [stepL, mdL, hdL, List.length_append, tN_len, szN_len] at this
  omega
end Go.Proofs.YtbmoimfimeiglaaGreat
namespace Go.Proofs.YtbmoimfimeiglaaGreat
open Go.RowKit Go.Deep
set_option linter.unusedVariables false
structure Pk (w : World) (N P : Nat) (u : Value) (L : List Int) : Prop where
  le : N ≤ P
  blk : w.heap[P]? = some (.cells #[u] 66 (0, 0))
  own : w.ownsRow N 5 1 u L.length (L.map (Value.int .u8))
theorem own_type {w : World} {N n e s g : Nat} {v : Value} {xs : List Value} {c : Array Value} {t : TypeId} {l : Nat × Nat} (h : w.ownsRow N e s v n xs) (hb : w.heap[g]? = some (.cells c t l)) (ht : t ≠ e) : v.ownBlock ≠ some g := by
  intro e'
  rcases h.2 with ⟨rfl, _⟩ | ⟨g', cap, cur, rfl, _, hc, _⟩
  · simp [Value.ownBlock] at e'
  · simp [Value.ownBlock] at e'
    subst e'
    rw [hb] at hc
    simp at hc
    exact ht hc.2.1
theorem Pk.ne {w : World} {N P : Nat} {u : Value} {L : List Int} (h : Pk w N P u L) : u.ownBlock ≠ some P := own_type h.own h.blk (by decide)
theorem set_one {w : World} {P : Nat} {u v : Value} {t : TypeId} (h : w.heap[P]? = some (.cells #[u] t (0, 0))) : (w.setCell ⟨P, 0, none⟩ v).heap[P]? = some (.cells #[v] t (0, 0)) := by
  simp [World.setCell, Array.getElem?_modify, h]
structure Kp (P : Nat) (w w' : World) : Prop where
  size : w.heap.size ≤ w'.heap.size
  block : ∀ b c t l, w.heap[b]? = some (.cells c t l) → t ≠ 5 → b ≠ P → w'.heap[b]? = w.heap[b]?
theorem Kp.trans {P : Nat} {w w1 w2 : World} (h : Kp P w w1) (k : Kp P w1 w2) : Kp P w w2 :=
  ⟨Nat.le_trans h.size k.size, fun b c t l hb ht hP => by
    have e := h.block b c t l hb ht hP
    exact (k.block b c t l (e.trans hb) ht hP).trans e⟩
theorem lt_of_heap {w : World} {b : Nat} {o : Obj} (h : w.heap[b]? = some o) : b < w.heap.size := by
  rcases Nat.lt_or_ge b w.heap.size with h' | h'
  · exact h'
  · simp [Array.getElem?_eq_none h'] at h
theorem Kp.of_below {P : Nat} {w w' : World} (h : Below w.heap.size w w') : Kp P w w' := ⟨h.size, fun b c t l hb _ _ => h.block b (lt_of_heap hb)⟩
theorem Pk.lt {w : World} {N P : Nat} {u : Value} {L : List Int} (h : Pk w N P u L) : P < w.heap.size := lt_of_heap h.blk
theorem Pk.keep {w w' : World} {N P : Nat} {u : Value} {L : List Int} (h : Pk w N P u L) (hb : Below w.heap.size w w') : Pk w' N P u L :=
  ⟨h.le, (hb.block P h.lt).trans h.blk, ownsRow_keep h.own fun b hv => hb.block b (ownsRow_lt h.own b hv).2⟩
theorem Pk.eq {w : World} {N P : Nat} {u : Value} {L M : List Int} (h : Pk w N P u L) (e : L = M) : Pk w N P u M := e ▸ h
theorem Pk.new (w : World) (N : Nat) (hN : N ≤ w.heap.size) : Pk (w.alloc (.cells #[.slice none 0 0] 66)) N w.heap.size (.slice none 0 0) [] :=
  ⟨hN, heap_alloc_new w _, ⟨rfl, .inl ⟨rfl, rfl⟩⟩⟩
set_option maxHeartbeats 2000000 in
set_option maxRecDepth 100000 in
theorem ladd_any (N P : Nat) (u : Value) (L M : List Int) (ad : Addr) (m c : Nat) (w : World) (h : Pk w N P u L) (hm : m = M.length) (hnews : ∀ (j : Nat) (y : Value), (M.map (Value.int .u8))[j]? = some y → w.cell? (ad.add j) = some y) (hlen : L.length + M.length ≤ 140737488355328) :
    Calls Tryz.prog 62 #[.pointer (some ⟨P, 0, none⟩), .slice (some ad) m c] w fun e w' => e = .returned (.tuple #[]) ∧ (∃ u', Pk w' N P u' (L ++ M)) ∧ Below N w w' ∧ Kp P w w' := by
  subst hm
  obtain ⟨i0, hi, hz0, hz1, hz2⟩ := info_parts info5
  have hlt := h.lt
  have hne := h.ne
  obtain ⟨hle, hbk, hown⟩ := h
  have c0 : w.cell? ⟨P, 0, none⟩ = some u := by rw [Lib.cell_of_heap hbk]; rfl
  go_enter Tryz.func62, Tryz.ntmps62
  go_wp2_with (at_builtin; refine wpList_append_own _ rfl _ _ 22 rfl N 5 i0 (.int .u8 0) 1 1 Tryz.underlying22 hi hz0 hz1 hz2 rfl (by decide) _ _ _ rfl hown ad M.length c (M.map (Value.int .u8)) rfl (by simp) hnews ?c2 ?c3 ?c4 ?c5 ?_)
  case c2 => intro y hy; obtain ⟨z, _, rfl⟩ := List.mem_map.1 hy; rfl
  case c3 => unfold maxLen; omega
  case c4 => omega
  case c5 => omega
  intro v' w2 hown' hgrow _
  have hbP : w2.heap[P]? = some (.cells #[u] 66 (0, 0)) := (hgrow.block P hlt (fun e => hne e.symm)).trans hbk
  have d0 : w2.cell? ⟨P, 0, none⟩ = some u := by rw [Lib.cell_of_heap hbP]; rfl
  have f0 : w2.frozen? ⟨P, 0, none⟩ = false := Lib.frozen_of_heap hbP 0
  have hne' := own_type hown' hbP (by decide)
  have HB : Hid (Below N w w2) := (Below.refl N w).grown hgrow (by omega) (fun k hk => (hown.lt k hk).1)
  have HK : Hid (∀ b c t l, w.heap[b]? = some (.cells c t l) → t ≠ 5 → b ≠ P → w2.heap[b]? = w.heap[b]?) := fun b c t l hb ht hP => hgrow.block b (lt_of_heap hb) (fun e => own_type hown hb ht e.symm)
  have hs : ∃ ao n' cap, v' = .slice ao n' cap := by
    rcases hown'.2 with ⟨hv, _⟩ | ⟨g, cap, cur, hv, _⟩ <;> exact ⟨_, _, _, hv⟩
  obtain ⟨ao, n', cap, rfl⟩ := hs
  have hsz := hgrow.size
  clear hgrow hown
  go_wp2
  go_end0
  refine ⟨rfl, ⟨_, hle, set_one hbP, ?_⟩, HB.out.setCell (p := ⟨P, 0, none⟩) hle _, ⟨by simpa using hsz, fun b c t l hb ht hP => ?_⟩⟩
  · rw [List.map_append, List.length_append]
    exact ownsRow_keep hown' fun b hv => Below.heap_setCell _ _ _ _ (by rintro rfl; exact hne' hv)
  · exact (Below.heap_setCell _ _ _ _ (by simpa using hP)).trans (HK.out b c t l hb ht hP)
theorem own_row {w : World} {N n : Nat} {v : Value} {L : List Int} (h : w.ownsRow N 5 1 v n (L.map (Value.int .u8))) (hn : 0 < n) :
    ∃ g cap, v = .slice (some ⟨g, 0, none⟩) n cap ∧ N ≤ g ∧ g < w.heap.size ∧ n ≤ cap ∧ cap ≤ maxLen ∧ ∀ (j : Nat) (y : Value), (L.map (Value.int .u8))[j]? = some y → w.cell? ⟨g, j, none⟩ = some y := by
  have h1 := h.1
  rcases h.2 with ⟨_, h0⟩ | ⟨g, cap, cur, rfl, hg, hc, hn', hm, hcs, htk⟩
  · omega
  · refine ⟨g, cap, rfl, hg, lt_of_heap hc, hn', hm, fun j y hy => ?_⟩
    rw [Lib.cell_of_heap hc, ← Array.getElem?_toList]
    rw [← htk, List.getElem?_take] at hy
    split at hy
    · exact hy
    · cases hy
theorem szN_num {n : Int} (h0 : 0 ≤ n) (h1 : n ≤ 9223372036854775807) : (numL n 8).drop 8 = szN n 1 ∧ (numL n 8).drop 7 = szN n 2 ∧ (numL n 8).drop 5 = szN n 4 := by
  have hw : IntKind.u64.wrap n = n := by rw [IntKind.wrap_u64]; omega
  refine ⟨?_, ?_, ?_⟩ <;> simp [numL, numB, szN, List.range_succ, hw]
set_option maxHeartbeats 2000000 in
set_option maxRecDepth 100000 in
theorem number_any (N P : Nat) (u : Value) (L : List Int) (n : Int) (k : Nat) (w : World) (h : Pk w N P u L) (h0 : 0 ≤ n) (h1 : n ≤ 9223372036854775807) (hk : k = 1 ∨ k = 2 ∨ k = 4) (hlen : L.length ≤ 100000000000000) :
    Calls Tryz.prog 30 #[.pointer (some ⟨P, 0, none⟩), .int .i64 n, .int .i64 k] w fun e w' => e = .returned (.tuple #[]) ∧ (∃ u', Pk w' N P u' (L ++ szN n k)) ∧ Below N w w' ∧ Kp P w w' := by
  have hd : (numL n 8).drop (9 - k) = szN n k := by
    have := szN_num h0 h1
    rcases hk with rfl | rfl | rfl
    · exact this.1
    · exact this.2.1
    · exact this.2.2
  have hN := h.lt
  have hle := h.le
  go_enter Tryz.func30, Tryz.ntmps30
  go_wp2_with fail
  refine Calls.mono (numberBytes_any n w) ?_
  rintro e w1 ⟨v, rfl, hown, hb1⟩
  obtain ⟨g, cap, rfl, hg0, hg1, hc, hcm, hcell⟩ := own_row hown (by omega)
  have hP1 := h.keep hb1
  have bel1 : Below N w w1 := hb1.mono (by omega)
  have hK1 : Kp P w w1 := Kp.of_below hb1
  clear hown h hb1
  have hadd : ∀ (q : Nat), q + k = 9 → ∀ (c : Nat) (wz : World), Below w1.heap.size w1 wz → Calls Tryz.prog 62 #[.pointer (some ⟨P, 0, none⟩), .slice (some ⟨g, q, none⟩) k c] wz fun e w' => e = .returned (.tuple #[]) ∧ (∃ u', Pk w' N P u' (L ++ szN n k)) ∧ Below N w w' ∧ Kp P w w' := by
    intro q hq c wz hz
    refine (ladd_any N P u L (szN n k) ⟨g, q, none⟩ k c wz (hP1.keep hz) (szN_len n k).symm (fun j y hy => ?_) (by rw [szN_len]; omega)).mono ?_
    · have e : ((⟨g, q, none⟩ : Addr).add j) = ⟨g, q + j, none⟩ := by unfold Addr.add; split <;> simp_all
      rw [e]
      refine (hz.cell (p := ⟨g, q + j, none⟩) hg1).trans (hcell (q + j) y ?_)
      rw [← hd, List.map_drop, List.getElem?_drop, show 9 - k = q by omega] at hy
      exact hy
    · rintro e w2 ⟨h1, h2, h3, h4⟩
      exact ⟨h1, h2, (bel1.trans (hz.mono (Nat.le_of_lt (Nat.lt_of_le_of_lt hle hP1.lt)))).trans h3, (hK1.trans (Kp.of_below hz)).trans h4⟩
  have HA : Hid (∀ (q : Nat), q + k = 9 → ∀ (c : Nat) (wz : World), Below w1.heap.size w1 wz → Calls Tryz.prog 62 #[.pointer (some ⟨P, 0, none⟩), .slice (some ⟨g, q, none⟩) k c] wz fun e w' => e = .returned (.tuple #[]) ∧ (∃ u', Pk w' N P u' (L ++ szN n k)) ∧ Below N w w' ∧ Kp P w w') := hadd
  clear hadd hcell hd
  unfold maxLen at hcm
  have hci : (9 : Int) ≤ (cap : Int) := by omega
  have hw8 : IntKind.i64.wrap 8 = 8 := by rw [IntKind.wrap_i64]; omega
  have hw7 : IntKind.i64.wrap 7 = 7 := by rw [IntKind.wrap_i64]; omega
  have hw5 : IntKind.i64.wrap 5 = 5 := by rw [IntKind.wrap_i64]; omega
  have hc8 : ¬ cap = 8 := by omega
  have hc7 : ¬ cap = 7 := by omega
  have hc5 : ¬ cap = 5 := by omega
  rcases hk with rfl | rfl | rfl
  · go_wp2_with fail
    go_region_held3 (fun _ => True) (trivial) (first | (go_at_call 62; refine Calls.mono (HA.out 8 rfl _ _ (bex)) ?_; rintro e w2 ⟨rfl, hpk, hbl, hkp⟩) | fail)
    all_goals go_wp2
    all_goals go_end0
    all_goals exact ⟨rfl, hpk, hbl, hkp⟩
  · go_wp2_with fail
    go_region_held3 (fun _ => True) (trivial) (first | (go_at_call 62; refine Calls.mono (HA.out 7 rfl _ _ (bex)) ?_; rintro e w2 ⟨rfl, hpk, hbl, hkp⟩) | fail)
    all_goals go_wp2
    all_goals go_end0
    all_goals exact ⟨rfl, hpk, hbl, hkp⟩
  · go_wp2_with fail
    go_region_held3 (fun _ => True) (trivial) (first | (go_at_call 62; refine Calls.mono (HA.out 5 rfl _ _ (bex)) ?_; rintro e w2 ⟨rfl, hpk, hbl, hkp⟩) | fail)
    all_goals go_wp2
    all_goals go_end0
    all_goals exact ⟨rfl, hpk, hbl, hkp⟩
theorem strCells_tx (s : ByteArray) : (txN s).map (Value.int .u8) = Lib.strCells s := by simp [txN, nb, Lib.strCells, List.map_map]
set_option maxHeartbeats 2000000 in
set_option maxRecDepth 100000 in
theorem text_any (N P : Nat) (u : Value) (L : List Int) (s : ByteArray) (k : Nat) (w : World) (h : Pk w N P u L) (hs : s.size ≤ 1000000000) (hk : k = 1 ∨ k = 2 ∨ k = 4) (hlen : L.length ≤ 10000000000000) :
    Calls Tryz.prog 31 #[.pointer (some ⟨P, 0, none⟩), .string s, .int .i64 k] w fun e w' => e = .returned (.tuple #[]) ∧ (∃ u', Pk w' N P u' (L ++ tN s k)) ∧ Below N w w' ∧ Kp P w w' := by
  go_enter Tryz.func31, Tryz.ntmps31
  go_wp2_with fail
  refine Calls.mono (number_any N P u L s.size k w h (by omega) (by omega) hk (by omega)) ?_
  rintro e w1 ⟨rfl, ⟨u1, hp1⟩, hb1, hk1⟩
  have hcv := run_bytes_of_string (P := Tryz.prog) w1 9 22 5 s Tryz.underlying9 Tryz.underlying22 Tryz.underlying5
  generalize hg : grownCap w1 s.size 0 5 = gc at hcv
  have hNs := hp1.lt
  have hle := hp1.le
  go_wp2_with (first | (go_at_call 62; refine Calls.mono (ladd_any N P u1 (L ++ szN s.size k) (txN s) ⟨w1.heap.size, 0, none⟩ s.size gc _ (hp1.keep (bex)) (txN_len s).symm (by rw [show (txN s).map (Value.int .u8) = Lib.strCells s from strCells_tx s]; exact bytes_cells _ _ _ _) ?hln) ?_) | fail)
  case hln => rw [List.length_append, szN_len, txN_len]; rcases hk with rfl | rfl | rfl <;> omega
  rintro e w2 ⟨rfl, ⟨u2, hp2⟩, hb2, hk2⟩
  have HB : Hid (Below N w w2) := by
    refine hb1.trans (Below.trans ?_ hb2)
    refine Below.mono (?_ : Below w1.heap.size w1 _) (by omega)
    exact bex
  have HK : Hid (Kp P w w2) := by
    refine hk1.trans (Kp.trans (Kp.of_below ?_) hk2)
    exact bex
  clear hb2 hk2 hcv
  go_wp2
  go_end0
  exact ⟨rfl, ⟨u2, hp2.eq (by rw [List.append_assoc]; rfl)⟩, HB.out, HK.out⟩
set_option maxHeartbeats 2000000 in
set_option maxRecDepth 100000 in
theorem packed_any (N P : Nat) (u : Value) (L : List Int) (w : World) (h : Pk w N P u L) (hl : L ≠ []) :
    Calls Tryz.prog 33 #[.pointer (some ⟨P, 0, none⟩)] w fun e w' => e = .returned (.string (strOfNums L)) ∧ w' = w := by
  have hn : 0 < L.length := List.length_pos_iff.2 hl
  have c0 : w.cell? ⟨P, 0, none⟩ = some u := by rw [Lib.cell_of_heap h.blk]; rfl
  have hcv := conv_own L h.own hn
  obtain ⟨g, cap, rfl, _⟩ := own_row h.own hn
  go_enter Tryz.func33, Tryz.ntmps33
  go_wp2
  go_returns
  exact ⟨rfl, rfl⟩
end Go.Proofs.YtbmoimfimeiglaaGreat
