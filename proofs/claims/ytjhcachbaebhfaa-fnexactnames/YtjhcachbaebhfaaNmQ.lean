/- Own text. What impl.placesOf keeps at each round: the places that it has found, those ahead done, those behind to be looked at; and which names stand in them. -/
import Derived.Test.YtjhcachbaebhfaaNmP
import Derived.Test.YtjhcachbaebhfaaNmM
import Derived.Deep.AppendLies
namespace Go.Proofs.Ytjhcachbaebhfaa
open Go.RowKit Go.Deep
set_option linter.unusedVariables false
/-- a place: where it lies, how deep, what stands there, in which blocks its kids lie. -/
structure N9 where
  b : Nat
  o : Nat
  D : Nat
  d : Nat
  p : P12
  F : List Nat
/-- cell o of block b is the first of the plan p, whose kids are at most d deep and lie in the blocks F. -/
def N9.ok (w : World) (m : N9) : Prop := m.b < w.heap.size ∧ w.cell? ⟨m.b, m.o, none⟩ = some (.int .i64 m.p.k) ∧ w.cell? ⟨m.b, m.o + 1, none⟩ = some (.string m.p.s) ∧ ∃ u, w.cell? ⟨m.b, m.o + 11, none⟩ = some u ∧ PlansIs w m.D m.d u m.p.ks m.F
theorem N9.ok.pos {w : World} {m : N9} (h : m.ok w) : ∃ d, m.d = d + 1 := by
  obtain ⟨_, _, _, u, _, hP⟩ := h
  cases hd : m.d with
  | zero => rw [hd] at hP; exact hP.elim
  | succ d => exact ⟨d, rfl⟩
/-- the cells of places. -/
def pcN (ms : List N9) : List Value := ms.map fun m => .pointer (some ⟨m.b, m.o, none⟩)
theorem pcN_len (ms : List N9) : (pcN ms).length = ms.length := by simp [pcN]
theorem pcN_push (ms : List N9) (m : N9) : pcN (ms ++ [m]) = pcN ms ++ [.pointer (some ⟨m.b, m.o, none⟩)] := by simp [pcN]
/-- a row of the call's own is read. -/
theorem own_readN {w : World} {N n : Nat} {v : Value} {ms : List N9} {t : TypeId} (h : w.ownsRow N t 1 v n (pcN ms)) {i : Nat} {m : N9} (hm : ms[i]? = some m) :
    ∃ g cap, v = .slice (some ⟨g, 0, none⟩) n cap ∧ n = ms.length ∧ i < n ∧ n ≤ cap ∧ cap ≤ maxLen ∧ g < w.heap.size ∧ N ≤ g ∧ w.cell? ⟨g, i, none⟩ = some (.pointer (some ⟨m.b, m.o, none⟩)) := by
  obtain ⟨hl, ho⟩ := h
  rw [pcN_len] at hl
  have hi : i < ms.length := (List.getElem?_eq_some_iff.1 hm).1
  have e0 : (pcN ms)[i]? = some (.pointer (some ⟨m.b, m.o, none⟩)) := by simp [pcN, hm]
  rcases ho with ⟨_, h0⟩ | ⟨g, cap, cur, rfl, hg, hc, hn, hmx, hs, ht⟩
  · omega
  have hlt : g < w.heap.size := by
    rcases Nat.lt_or_ge g w.heap.size with h' | h'
    · exact h'
    · simp [Array.getElem?_eq_none h'] at hc
  refine ⟨g, cap, rfl, by omega, by omega, hn, hmx, hlt, hg, ?_⟩
  simp only [World.cell?, hc]
  rw [← ht, List.getElem?_take, if_pos (by omega), Array.getElem?_toList] at e0
  simpa using e0
/-- the names that stand at places of tables, or in the plans of the places behind. -/
def NamesAt (ms rest : List N9) (x : ByteArray) : Prop := (∃ m ∈ ms, m.p.k = 0 ∧ x = m.p.s) ∨ ∃ m ∈ rest, x ∈ namL m.d m.p
/-- what is kept at round i. -/
structure QueN (w : World) (F0 : List Nat) (B : Nat) (L : List ByteArray) (tot : Nat) (wr : World) (v : Value) (i : Nat) (ms : List N9) (es : Array MapEntry) (ck : Nat) : Prop where
  le : i ≤ ms.length
  own : wr.ownsRow w.heap.size 138 1 v ms.length (pcN ms)
  map : wr.heap[B]? = some (.map es ck)
  bel : Below w.heap.size w wr
  ok : ∀ m ∈ ms, m.ok w
  keys : ∀ e ∈ es.toList, ∃ a, e.key = .pointer (some a) ∧ a.block ∈ F0 ∧ ∀ m ∈ ms.drop i, a.block ∉ m.F
  sub : ∀ m ∈ ms.drop i, ∀ b ∈ m.F, b ∈ F0
  nd : ((ms.drop i).map (·.F)).flatten.Nodup
  names : ∀ x, x ∈ L ↔ NamesAt ms (ms.drop i) x
  tot : ms.length + ((ms.drop i).map fun m => wtP m.p).sum ≤ tot
/-- the kids of a place, up to number k. -/
def kN (m : N9) (d bl ol : Nat) (G : List (List Nat)) (j : Nat) : N9 := ⟨bl, ol + j * 12, m.D, d, m.p.ks.getD j (DataW.nil), G.getD j []⟩
def ksN (m : N9) (d bl ol : Nat) (G : List (List Nat)) (k : Nat) : List N9 := (List.range k).map (kN m d bl ol G)
theorem ksN_succ (m : N9) (d bl ol : Nat) (G : List (List Nat)) (k : Nat) : ksN m d bl ol G (k + 1) = ksN m d bl ol G k ++ [kN m d bl ol G k] := by
  unfold ksN; rw [List.range_succ, List.map_append]; rfl
theorem ksN_len (m : N9) (d bl ol : Nat) (G : List (List Nat)) (k : Nat) : (ksN m d bl ol G k).length = k := by simp [ksN]
/-- what is kept at kid k of a place. -/
structure InnN (w : World) (F0 : List Nat) (B : Nat) (wr : World) (v : Value) (i : Nat) (ms : List N9) (m : N9) (d bl ol : Nat) (G : List (List Nat)) (k : Nat) (es : Array MapEntry) (ck : Nat) : Prop where
  own : wr.ownsRow w.heap.size 138 1 v (ms.length + k) (pcN (ms ++ ksN m d bl ol G k))
  map : wr.heap[B]? = some (.map es ck)
  bel : Below w.heap.size w wr
  keys : ∀ e ∈ es.toList, ∃ a, e.key = .pointer (some a) ∧ a.block ∈ F0 ∧ ((∀ m ∈ ms.drop i, a.block ∉ m.F) ∨ (a.block = bl ∧ ∃ j, j < k ∧ a.off = ol + j * 12))
theorem sum_getDN (f : P12 → Nat) (z : P12) : ∀ (xs : List P12), ((List.range xs.length).map fun j => f (xs.getD j z)).sum = (xs.map f).sum
  | [] => rfl
  | x :: xs => by
    rw [List.length_cons, List.range_succ_eq_map, List.map_cons, List.sum_cons, List.map_map, List.map_cons, List.sum_cons, ← sum_getDN f z xs]
    rfl
theorem flat_getDN : ∀ (G : List (List Nat)), ((List.range G.length).map fun j => G.getD j []).flatten = G.flatten
  | [] => rfl
  | g :: G => by
    rw [List.length_cons, List.range_succ_eq_map, List.map_cons, List.flatten_cons, List.map_map, List.flatten_cons, ← flat_getDN G]
    rfl
/-- behind the last kid the round is done. -/
theorem InnN.done {w : World} {F0 : List Nat} {B : Nat} {L : List ByteArray} {tot : Nat} {wr wr0 : World} {v v0 : Value} {i : Nat} {ms : List N9} {m : N9} {d bl ol : Nat} {G : List (List Nat)} {es es0 : Array MapEntry} {ck ck0 : Nat}
    (hQ : QueN w F0 B L tot wr0 v0 i ms es0 ck0) (hm : ms[i]? = some m) (hd : m.d = d + 1) (hG : G.length = m.p.ks.length)
    (hF : m.p.ks = [] → m.F = []) (hF' : m.p.ks ≠ [] → ∃ R, m.F = bl :: R ∧ G.flatten.Sublist R)
    (hok : ∀ j, j < m.p.ks.length → (kN m d bl ol G j).ok w)
    (h : InnN w F0 B wr v i ms m d bl ol G m.p.ks.length es ck) :
    QueN w F0 B L tot wr v (i + 1) (ms ++ ksN m d bl ol G m.p.ks.length) es ck := by
  have hi : i < ms.length := (List.getElem?_eq_some_iff.1 hm).1
  have hdr : ms.drop i = m :: ms.drop (i + 1) := by
    obtain ⟨_, rfl⟩ := List.getElem?_eq_some_iff.1 hm
    exact List.drop_eq_getElem_cons hi
  have hdr' : (ms ++ ksN m d bl ol G m.p.ks.length).drop (i + 1) = ms.drop (i + 1) ++ ksN m d bl ol G m.p.ks.length := List.drop_append_of_le_length (by omega)
  have hmf : ∀ b ∈ G.flatten, b ∈ m.F := by
    intro b hb
    by_cases hne : m.p.ks = []
    · have : G = [] := List.length_eq_zero_iff.1 (by rw [hG, hne]; rfl)
      rw [this] at hb; cases hb
    · obtain ⟨R, h1, h2⟩ := hF' hne
      rw [h1]; exact List.mem_cons_of_mem _ (h2.subset hb)
  have hkF : ((ksN m d bl ol G m.p.ks.length).map (·.F)).flatten = G.flatten := by
    rw [← flat_getDN G, hG]
    unfold ksN
    rw [List.map_map]
    rfl
  have hkm : ∀ x ∈ ksN m d bl ol G m.p.ks.length, ∀ b ∈ x.F, b ∈ G.flatten := by
    intro x hx b hb
    rw [← hkF]
    exact List.mem_flatten.2 ⟨x.F, List.mem_map.2 ⟨x, hx, rfl⟩, hb⟩
  have hnd := hQ.nd
  rw [hdr, List.map_cons, List.flatten_cons, List.nodup_append] at hnd
  obtain ⟨n1, n2, n3⟩ := hnd
  have hsubm : ∀ b ∈ m.F, b ∈ F0 := hQ.sub m (by rw [hdr]; exact List.mem_cons_self)
  have hkp : ∀ x ∈ ksN m d bl ol G m.p.ks.length, x.p ∈ m.p.ks ∧ x.d = d := by
    intro x hx
    obtain ⟨j, hj, rfl⟩ := List.mem_map.1 hx
    have hj' := List.mem_range.1 hj
    refine ⟨?_, rfl⟩
    show m.p.ks.getD j DataW.nil ∈ m.p.ks
    rw [List.getD_eq_getElem?_getD, List.getElem?_eq_getElem hj']
    exact List.getElem_mem hj'
  have hkq : ∀ k ∈ m.p.ks, ∃ x ∈ ksN m d bl ol G m.p.ks.length, x.p = k ∧ x.d = d := by
    intro k hk
    obtain ⟨j, hj, rfl⟩ := List.mem_iff_getElem.1 hk
    refine ⟨kN m d bl ol G j, List.mem_map.2 ⟨j, List.mem_range.2 hj, rfl⟩, ?_, rfl⟩
    show m.p.ks.getD j DataW.nil = _
    rw [List.getD_eq_getElem?_getD, List.getElem?_eq_getElem hj]
    rfl
  have hoks : ∀ x ∈ ksN m d bl ol G m.p.ks.length, x.ok w := by
    intro x hx
    obtain ⟨j, hj, rfl⟩ := List.mem_map.1 hx
    exact hok j (List.mem_range.1 hj)
  have hmm : m ∈ ms := List.mem_of_getElem? hm
  refine ⟨by simp; omega, by rw [List.length_append, ksN_len]; exact h.own, h.map, h.bel, ?_, ?_, ?_, ?_, ?_, ?_⟩
  · intro x hx
    rcases List.mem_append.1 hx with hx | hx
    · exact hQ.ok x hx
    · exact hoks x hx
  · intro e he
    obtain ⟨a, hk, h0, hor⟩ := h.keys e he
    refine ⟨a, hk, h0, fun x hx => ?_⟩
    rw [hdr'] at hx
    rcases hor with hold | ⟨rfl, j, hj, _⟩
    · rcases List.mem_append.1 hx with hx | hx
      · exact hold x (by rw [hdr]; exact List.mem_cons_of_mem _ hx)
      · intro hb
        exact hold m (by rw [hdr]; exact List.mem_cons_self) (hmf _ (hkm x hx _ hb))
    · have hne : m.p.ks ≠ [] := by intro e; rw [e] at hj; simp at hj
      obtain ⟨R, hF1, hR⟩ := hF' hne
      rw [hF1] at n1 n3
      rcases List.mem_append.1 hx with hx | hx
      · intro hb
        exact n3 _ List.mem_cons_self _ (List.mem_flatten.2 ⟨x.F, List.mem_map.2 ⟨x, hx, rfl⟩, hb⟩) rfl
      · intro hb
        exact (List.nodup_cons.1 n1).1 (hR.subset (hkm x hx _ hb))
  · intro x hx b hb
    rw [hdr'] at hx
    rcases List.mem_append.1 hx with hx | hx
    · exact hQ.sub x (by rw [hdr]; exact List.mem_cons_of_mem _ hx) b hb
    · exact hsubm b (hmf b (hkm x hx b hb))
  · rw [hdr', List.map_append, List.flatten_append, hkF, List.nodup_append]
    refine ⟨n2, ?_, fun a ha b hb => ?_⟩
    · by_cases hne : m.p.ks = []
      · have : G = [] := List.length_eq_zero_iff.1 (by rw [hG, hne]; rfl)
        rw [this]; exact List.nodup_nil
      · obtain ⟨R, hF1, hR⟩ := hF' hne
        rw [hF1] at n1
        exact hR.nodup (List.nodup_cons.1 n1).2
    · rintro rfl
      exact n3 a (hmf a hb) a ha rfl
  · intro x
    rw [hQ.names x, hdr, hdr']
    have hup : ∀ y ∈ ksN m d bl ol G m.p.ks.length, x ∈ namL y.d y.p → x ∈ namL m.d m.p := by
      intro y hy hx
      obtain ⟨h1, h2⟩ := hkp y hy
      rw [hd, mem_namL]
      rw [h2] at hx
      exact .inr ⟨y.p, h1, hx⟩
    constructor
    · rintro (⟨y, hy, hk⟩ | ⟨y, hy, hx⟩)
      · exact .inl ⟨y, List.mem_append_left _ hy, hk⟩
      · rcases List.mem_cons.1 hy with rfl | hy
        · rw [hd, mem_namL] at hx
          rcases hx with hx | ⟨k, hk, hx⟩
          · exact .inl ⟨y, List.mem_append_left _ hmm, hx⟩
          · obtain ⟨z, hz, h1, h2⟩ := hkq k hk
            exact .inr ⟨z, List.mem_append_right _ hz, by rw [h1, h2]; exact hx⟩
        · exact .inr ⟨y, List.mem_append_left _ hy, hx⟩
    · rintro (⟨y, hy, hk⟩ | ⟨y, hy, hx⟩)
      · rcases List.mem_append.1 hy with hy | hy
        · exact .inl ⟨y, hy, hk⟩
        · obtain ⟨d', hd'⟩ := (hoks y hy).pos
          refine .inr ⟨m, List.mem_cons_self, hup y hy ?_⟩
          rw [hd', mem_namL]
          exact .inl hk
      · rcases List.mem_append.1 hy with hy | hy
        · exact .inr ⟨y, List.mem_cons_of_mem _ hy, hx⟩
        · exact .inr ⟨m, List.mem_cons_self, hup y hy hx⟩
  · have ht := hQ.tot
    rw [hdr, List.map_cons, List.sum_cons] at ht
    rw [hdr', List.length_append, ksN_len, List.map_append, List.sum_append]
    have e1 : ((ksN m d bl ol G m.p.ks.length).map fun x => wtP x.p).sum = wtPs m.p.ks := by
      unfold ksN
      rw [List.map_map, ← wtPs_sum, ← sum_getDN wtP (DataW.nil)]
      rfl
    have e2 := wtP_eq m.p
    omega
theorem own_keep2N {w w' : World} {N e n s : Nat} {v : Value} {xs : List Value} (h : w.ownsRow N e s v n xs) (hb : Below w.heap.size w w') : w'.ownsRow N e s v n xs := by
  refine ⟨h.1, ?_⟩
  rcases h.2 with hn | ⟨g, cap, cur, rfl, hg, hc, rest⟩
  · exact .inl hn
  · have hlt : g < w.heap.size := by
      rcases Nat.lt_or_ge g w.heap.size with h' | h'
      · exact h'
      · simp [Array.getElem?_eq_none h'] at hc
    exact .inr ⟨g, cap, cur, rfl, hg, (hb.block g hlt).trans hc, rest⟩
theorem QueN.inn {w : World} {F0 : List Nat} {B : Nat} {L : List ByteArray} {tot : Nat} {wr w2 : World} {v : Value} {i : Nat} {ms : List N9} {m : N9} {d bl ol : Nat} {G : List (List Nat)} {es : Array MapEntry} {ck : Nat}
    (hQ : QueN w F0 B L tot wr v i ms es ck) (hb : Below wr.heap.size wr w2) : InnN w F0 B w2 v i ms m d bl ol G 0 es ck := by
  have hB : B < wr.heap.size := (Array.getElem?_eq_some_iff.1 hQ.map).1
  refine ⟨by simpa [ksN] using own_keep2N hQ.own hb, (hb.block B hB).trans hQ.map, hQ.bel.trans (hb.mono hQ.bel.size), fun e he => ?_⟩
  obtain ⟨a, h1, h2, h3⟩ := hQ.keys e he
  exact ⟨a, h1, h2, .inl h3⟩
theorem InnN.step {w : World} {F0 : List Nat} {B : Nat} {wr : World} {v : Value} {i : Nat} {ms : List N9} {m : N9} {d bl ol : Nat} {G : List (List Nat)} {j : Nat} {es : Array MapEntry} {ck : Nat}
    (h : InnN w F0 B wr v i ms m d bl ol G j es ck) (hbF : bl ∈ F0) {w5 : World} {v5 n : Value}
    (hown : w5.ownsRow w.heap.size 138 1 v5 (ms.length + j + 1) (pcN (ms ++ ksN m d bl ol G j) ++ [.pointer (some ⟨bl, ol + j * 12, none⟩)]))
    (hmap : w5.heap[B]? = some (.map (es.push ⟨.pointer (some ⟨bl, ol + j * 12, none⟩), n, ck⟩) (ck + 1))) (hbel : Below w.heap.size w w5) :
    InnN w F0 B w5 v5 i ms m d bl ol G (j + 1) (es.push ⟨.pointer (some ⟨bl, ol + j * 12, none⟩), n, ck⟩) (ck + 1) := by
  refine ⟨?_, hmap, hbel, fun e he => ?_⟩
  · rw [ksN_succ, ← List.append_assoc, pcN_push]
    exact hown
  · rw [Array.toList_push] at he
    rcases List.mem_append.1 he with he | he
    · obtain ⟨a, h1, h2, h3⟩ := h.keys e he
      refine ⟨a, h1, h2, ?_⟩
      rcases h3 with h3 | ⟨hb, j', hj', ho⟩
      · exact .inl h3
      · exact .inr ⟨hb, j', by omega, ho⟩
    · rcases List.mem_singleton.1 he with rfl
      exact ⟨_, rfl, hbF, .inr ⟨rfl, j, by omega, rfl⟩⟩
/-- the next pointer is no key yet. -/
theorem InnN.fresh {w : World} {F0 : List Nat} {B : Nat} {wr : World} {v : Value} {i : Nat} {ms : List N9} {m : N9} {d bl ol : Nat} {G : List (List Nat)} {j : Nat} {es : Array MapEntry} {ck : Nat}
    (h : InnN w F0 B wr v i ms m d bl ol G j es ck) (hm : ms[i]? = some m) (hF : bl ∈ m.F) (hFr : ∀ x ∈ F0, FrN w x ∧ x < w.heap.size) {wX : World} (hX : Below w.heap.size w wX) :
    ∀ e ∈ es.toList, ∃ a, e.key = .pointer (some a) ∧ (⟨bl, ol + j * 12, none⟩ : Addr) ≠ a ∧ FrN wX a.block := by
  intro e he
  obtain ⟨a, h1, h2, h3⟩ := h.keys e he
  refine ⟨a, h1, ?_, (hFr _ h2).1.keep (hX.block _ (hFr _ h2).2)⟩
  rintro rfl
  rcases h3 with h3 | ⟨_, j', hj', ho⟩
  · refine h3 m ?_ hF
    obtain ⟨hi, rfl⟩ := List.getElem?_eq_some_iff.1 hm
    rw [List.drop_eq_getElem_cons hi]
    exact List.mem_cons_self
  · simp at ho; omega
/-- what a map's update leaves. -/
theorem upd_worldN {w wX : World} {B : Nat} {o o' : Obj} (hb : wX.heap[B]? = some o) (hB : w.heap.size ≤ B) (hX : Below w.heap.size w wX) :
    let wY : World := { wX with heap := wX.heap.setIfInBounds B o' }
    wY.heap[B]? = some o' ∧ (∀ b, b ≠ B → wY.heap[b]? = wX.heap[b]?) ∧ wY.heap.size = wX.heap.size ∧ Below w.heap.size w wY := by
  obtain ⟨h1, h2⟩ := MapKept.heap_set (w := wX) (o' := o') hb
  refine ⟨h1, h2, by simp, hX.os, hX.tape, hX.output, by simpa using hX.size, fun k hk => (h2 k (by omega)).trans (hX.block k hk)⟩
end Go.Proofs.Ytjhcachbaebhfaa
