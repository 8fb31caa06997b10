/- Own text. What impl.sameTrees keeps at each round: the matches that it has found, those ahead done, those behind to be looked at; and that they tell whether two trees are the same. -/
import Derived.Test.YtflnkfjjjacjbaaSmpN
import Derived.Test.YtflnkfjjjacjbaaSmpM
import Derived.Deep.AppendLies
namespace Go.Proofs.Ytflnkfjjjacjbaa
open Go.RowKit Go.Deep
set_option linter.unusedVariables false
/-- two places that have to be the same: where they lie, how deep, what stands there, in which blocks their kids lie. -/
structure M9 where
  lb : Nat
  lo : Nat
  rb : Nat
  ro : Nat
  D : Nat
  d : Nat
  l : P12
  r : P12
  F : List Nat
  H : List Nat
def M9.ok (w : World) (m : M9) : Prop := PtO w m.D m.d m.lb m.lo m.l m.F ∧ PtP w m.D m.d m.rb m.ro m.r m.H
def M9.same (m : M9) : Bool := sameQ m.D m.d m.l m.r
/-- the cells of matches. -/
def mcP (ms : List M9) : List Value := ms.flatMap fun m => [.pointer (some ⟨m.lb, m.lo, none⟩), .pointer (some ⟨m.rb, m.ro, none⟩)]
theorem mc_lenP (ms : List M9) : (mcP ms).length = ms.length * 2 := by
  induction ms with
  | nil => rfl
  | cons m ms ih => unfold mcP at ih ⊢; rw [List.flatMap_cons, List.length_append, ih]; simp; omega
theorem mc_pushP (ms : List M9) (m : M9) : mcP (ms ++ [m]) = mcP ms ++ [.pointer (some ⟨m.lb, m.lo, none⟩), .pointer (some ⟨m.rb, m.ro, none⟩)] := by
  unfold mcP; rw [List.flatMap_append]; simp
theorem mc_atP : ∀ {ms : List M9} {i : Nat} {m : M9}, ms[i]? = some m → (mcP ms)[i * 2]? = some (.pointer (some ⟨m.lb, m.lo, none⟩)) ∧ (mcP ms)[i * 2 + 1]? = some (.pointer (some ⟨m.rb, m.ro, none⟩))
  | [], i, m, h => by simp at h
  | x :: ms, 0, m, h => by simp at h; subst h; simp [mcP]
  | x :: ms, i + 1, m, h => by
    have := mc_atP (ms := ms) (i := i) (m := m) (by simpa using h)
    have e : mcP (x :: ms) = .pointer (some ⟨x.lb, x.lo, none⟩) :: .pointer (some ⟨x.rb, x.ro, none⟩) :: mcP ms := rfl
    rw [e, show (i + 1) * 2 = i * 2 + 1 + 1 from by omega]
    simpa using this
/-- a row of the call's own is read. -/
theorem own_readP {w : World} {N n : Nat} {v : Value} {ms : List M9} {t : TypeId} (h : w.ownsRow N t 2 v n (mcP ms)) {i : Nat} {m : M9} (hm : ms[i]? = some m) :
    ∃ g cap, v = .slice (some ⟨g, 0, none⟩) n cap ∧ n = ms.length ∧ i < n ∧ n ≤ cap ∧ cap ≤ maxLen ∧ g < w.heap.size ∧ N ≤ g ∧ w.cell? ⟨g, i * 2, none⟩ = some (.pointer (some ⟨m.lb, m.lo, none⟩)) ∧ w.cell? ⟨g, i * 2 + 1, none⟩ = some (.pointer (some ⟨m.rb, m.ro, none⟩)) := by
  obtain ⟨hl, ho⟩ := h
  rw [mc_lenP] at hl
  have hi : i < ms.length := (List.getElem?_eq_some_iff.1 hm).1
  obtain ⟨e0, e1⟩ := mc_atP hm
  rcases ho with ⟨_, h0⟩ | ⟨g, cap, cur, rfl, hg, hc, hn, hmx, hs, ht⟩
  · omega
  have hlt : g < w.heap.size := by
    rcases Nat.lt_or_ge g w.heap.size with h' | h'
    · exact h'
    · simp [Array.getElem?_eq_none h'] at hc
  have get : ∀ j u, j < n * 2 → (mcP ms)[j]? = some u → w.cell? ⟨g, j, none⟩ = some u := by
    intro j u hj hu
    simp only [World.cell?, hc]
    rw [← ht, List.getElem?_take, if_pos hj, Array.getElem?_toList] at hu
    simpa using hu
  exact ⟨g, cap, rfl, by omega, by omega, hn, hmx, hlt, hg, get _ _ (by omega) e0, get _ _ (by omega) e1⟩
/-- what is kept at round i. -/
structure QueP (w : World) (F0 : List Nat) (B : Nat) (res : Bool) (tot : Nat) (wr : World) (v : Value) (i : Nat) (ms : List M9) (es : Array MapEntry) (ck : Nat) : Prop where
  le : i ≤ ms.length
  own : wr.ownsRow w.heap.size 57 2 v ms.length (mcP ms)
  map : wr.heap[B]? = some (.map es ck)
  bel : Below w.heap.size w wr
  ok : ∀ m ∈ ms, m.ok w
  keys : ∀ e ∈ es.toList, ∃ a a', e.key = .agg #[.pointer (some a), .pointer (some a')] ∧ a.block ∈ F0 ∧ ∀ m ∈ ms.drop i, a.block ∉ m.F
  sub : ∀ m ∈ ms.drop i, ∀ b ∈ m.F, b ∈ F0
  nd : ((ms.drop i).map (·.F)).flatten.Nodup
  res : res = (ms.drop i).all M9.same
  tot : ms.length + ((ms.drop i).map fun m => wtP m.l).sum ≤ tot
/-- the kids of a match, up to number k. -/
def kmP (m : M9) (d bl ol br or : Nat) (G G' : List (List Nat)) (j : Nat) : M9 :=
  ⟨bl, ol + j * 12, br, or + j * 12, m.D, d, m.l.ks.getD j (DataW.nil), m.r.ks.getD j (DataW.nil), G.getD j [], G'.getD j []⟩
def kmsP (m : M9) (d bl ol br or : Nat) (G G' : List (List Nat)) (k : Nat) : List M9 := (List.range k).map (kmP m d bl ol br or G G')
theorem kms_succP (m : M9) (d bl ol br or : Nat) (G G' : List (List Nat)) (k : Nat) : kmsP m d bl ol br or G G' (k + 1) = kmsP m d bl ol br or G G' k ++ [kmP m d bl ol br or G G' k] := by
  unfold kmsP; rw [List.range_succ, List.map_append]; rfl
theorem kms_lenP (m : M9) (d bl ol br or : Nat) (G G' : List (List Nat)) (k : Nat) : (kmsP m d bl ol br or G G' k).length = k := by simp [kmsP]
/-- what is kept at kid k of a match. -/
structure InnP (w : World) (F0 : List Nat) (B : Nat) (wr : World) (v : Value) (i : Nat) (ms : List M9) (m : M9) (d bl ol br or : Nat) (G G' : List (List Nat)) (k : Nat) (es : Array MapEntry) (ck : Nat) : Prop where
  own : wr.ownsRow w.heap.size 57 2 v (ms.length + k) (mcP (ms ++ kmsP m d bl ol br or G G' k))
  map : wr.heap[B]? = some (.map es ck)
  bel : Below w.heap.size w wr
  keys : ∀ e ∈ es.toList, ∃ a a', e.key = .agg #[.pointer (some a), .pointer (some a')] ∧ a.block ∈ F0 ∧ ((∀ m ∈ ms.drop i, a.block ∉ m.F) ∨ (a.block = bl ∧ ∃ j, j < k ∧ a.off = ol + j * 12))
theorem getD_ofP {α : Type} {l : List α} {j : Nat} {x : α} (h : l[j]? = some x) (z : α) : l.getD j z = x := by rw [List.getD_eq_getElem?_getD, h]; rfl
theorem zip_allP (f : P12 × P12 → Bool) (z : P12) : ∀ (xs ys : List P12), xs.length = ys.length → (xs.zip ys).all f = (List.range xs.length).all fun j => f (xs.getD j z, ys.getD j z)
  | [], [], _ => rfl
  | x :: xs, y :: ys, h => by
    rw [List.zip_cons_cons, List.all_cons, List.length_cons, List.range_succ_eq_map, List.all_cons, List.all_map, zip_allP f z xs ys (by simpa using h)]
    rfl
theorem sum_getDP (f : P12 → Nat) (z : P12) : ∀ (xs : List P12), ((List.range xs.length).map fun j => f (xs.getD j z)).sum = (xs.map f).sum
  | [] => rfl
  | x :: xs => by
    rw [List.length_cons, List.range_succ_eq_map, List.map_cons, List.sum_cons, List.map_map, List.map_cons, List.sum_cons, ← sum_getDP f z xs]
    rfl
/-- behind the last kid the round is done. -/
theorem InnP.done {w : World} {F0 : List Nat} {B : Nat} {res : Bool} {tot : Nat} {wr wr0 : World} {v v0 : Value} {i : Nat} {ms : List M9} {m : M9} {d bl ol br or : Nat} {G G' : List (List Nat)} {es es0 : Array MapEntry} {ck ck0 : Nat}
    (hQ : QueP w F0 B res tot wr0 v0 i ms es0 ck0) (hm : ms[i]? = some m) (hd : m.d = d + 1) (ht : topP m.D m.l m.r = true) (hG : G.length = m.l.ks.length) (hG' : G'.length = m.r.ks.length)
    (hF : m.l.ks = [] → m.F = []) (hF' : m.l.ks ≠ [] → ∃ R, m.F = bl :: R ∧ G.flatten.Sublist R)
    (hok : ∀ j, j < m.l.ks.length → (kmP m d bl ol br or G G' j).ok w)
    (h : InnP w F0 B wr v i ms m d bl ol br or G G' m.l.ks.length es ck) :
    QueP w F0 B res tot wr v (i + 1) (ms ++ kmsP m d bl ol br or G G' m.l.ks.length) es ck := by
  have hi : i < ms.length := (List.getElem?_eq_some_iff.1 hm).1
  have hlen : m.l.ks.length = m.r.ks.length := by
    unfold topP at ht
    simp at ht
    omega
  have hdr : ms.drop i = m :: ms.drop (i + 1) := by
    obtain ⟨_, rfl⟩ := List.getElem?_eq_some_iff.1 hm
    exact List.drop_eq_getElem_cons hi
  have hdr' : (ms ++ kmsP m d bl ol br or G G' m.l.ks.length).drop (i + 1) = ms.drop (i + 1) ++ kmsP m d bl ol br or G G' m.l.ks.length := List.drop_append_of_le_length (by omega)
  have hmf : ∀ b ∈ G.flatten, b ∈ m.F := by
    intro b hb
    by_cases hne : m.l.ks = []
    · have : G = [] := List.length_eq_zero_iff.1 (by rw [hG, hne]; rfl)
      rw [this] at hb; cases hb
    · obtain ⟨R, h1, h2⟩ := hF' hne
      rw [h1]; exact List.mem_cons_of_mem _ (h2.subset hb)
  have hkF : ((kmsP m d bl ol br or G G' m.l.ks.length).map (·.F)).flatten = G.flatten := by
    rw [← flat_getDP G, hG]
    unfold kmsP
    rw [List.map_map]
    rfl
  have hkm : ∀ x ∈ kmsP m d bl ol br or G G' m.l.ks.length, ∀ b ∈ x.F, b ∈ G.flatten := by
    intro x hx b hb
    rw [← hkF]
    exact List.mem_flatten.2 ⟨x.F, List.mem_map.2 ⟨x, hx, rfl⟩, hb⟩
  have hnd := hQ.nd
  rw [hdr, List.map_cons, List.flatten_cons, List.nodup_append] at hnd
  obtain ⟨n1, n2, n3⟩ := hnd
  have hsubm : ∀ b ∈ m.F, b ∈ F0 := hQ.sub m (by rw [hdr]; exact List.mem_cons_self)
  refine ⟨by simp; omega, by rw [List.length_append, kms_lenP]; exact h.own, h.map, h.bel, ?_, ?_, ?_, ?_, ?_, ?_⟩
  · intro x hx
    rcases List.mem_append.1 hx with hx | hx
    · exact hQ.ok x hx
    · obtain ⟨j, hj, rfl⟩ := List.mem_map.1 hx
      exact hok j (List.mem_range.1 hj)
  · intro e he
    obtain ⟨a, a', hk, h0, hor⟩ := h.keys e he
    refine ⟨a, a', hk, h0, fun x hx => ?_⟩
    rw [hdr'] at hx
    rcases hor with hold | ⟨rfl, j, hj, _⟩
    · rcases List.mem_append.1 hx with hx | hx
      · exact hold x (by rw [hdr]; exact List.mem_cons_of_mem _ hx)
      · intro hb
        exact hold m (by rw [hdr]; exact List.mem_cons_self) (hmf _ (hkm x hx _ hb))
    · have hne : m.l.ks ≠ [] := by intro e; rw [e] at hj; simp at hj
      obtain ⟨R, hF1, hR⟩ := hF' hne
      rw [hF1] at n1 n3
      rcases List.mem_append.1 hx with hx | hx
      · intro hb
        exact n3 _ List.mem_cons_self _ (List.mem_flatten.2 ⟨x.F, List.mem_map.2 ⟨x, hx, rfl⟩, hb⟩) rfl
      · intro hb
        exact (List.nodup_cons.1 n1).1 (hR.subset (hkm x hx _ hb))
  · intro x hx b hb
    rw [hdr'] at hx
    rcases List.mem_append.1 hx with hx | hx
    · exact hQ.sub x (by rw [hdr]; exact List.mem_cons_of_mem _ hx) b hb
    · exact hsubm b (hmf b (hkm x hx b hb))
  · rw [hdr', List.map_append, List.flatten_append, hkF, List.nodup_append]
    refine ⟨n2, ?_, fun a ha b hb => ?_⟩
    · by_cases hne : m.l.ks = []
      · have : G = [] := List.length_eq_zero_iff.1 (by rw [hG, hne]; rfl)
        rw [this]; exact List.nodup_nil
      · obtain ⟨R, hF1, hR⟩ := hF' hne
        rw [hF1] at n1
        exact hR.nodup (List.nodup_cons.1 n1).2
    · rintro rfl
      exact n3 a (hmf a hb) a ha rfl
  · rw [hQ.res, hdr, hdr', List.all_cons, List.all_append, Bool.and_comm]
    congr 1
    show sameQ m.D m.d m.l m.r = _
    rw [hd, sameQ_eq, ht, Bool.true_and]
    unfold sameR
    rw [zip_allP _ (DataW.nil) _ _ hlen]
    unfold kmsP
    rw [List.all_map]
    rfl
  · have ht := hQ.tot
    rw [hdr, List.map_cons, List.sum_cons] at ht
    rw [hdr', List.length_append, kms_lenP, List.map_append, List.sum_append]
    have e1 : ((kmsP m d bl ol br or G G' m.l.ks.length).map fun x => wtP x.l).sum = wtPs m.l.ks := by
      unfold kmsP
      rw [List.map_map, ← wtPs_sum, ← sum_getDP wtP (DataW.nil)]
      rfl
    have e2 := wtP_eq m.l
    omega
theorem own_keep2P {w w' : World} {N e n s : Nat} {v : Value} {xs : List Value} (h : w.ownsRow N e s v n xs) (hb : Below w.heap.size w w') : w'.ownsRow N e s v n xs := by
  refine ⟨h.1, ?_⟩
  rcases h.2 with hn | ⟨g, cap, cur, rfl, hg, hc, rest⟩
  · exact .inl hn
  · have hlt : g < w.heap.size := by
      rcases Nat.lt_or_ge g w.heap.size with h' | h'
      · exact h'
      · simp [Array.getElem?_eq_none h'] at hc
    exact .inr ⟨g, cap, cur, rfl, hg, (hb.block g hlt).trans hc, rest⟩
theorem QueP.inn {w : World} {F0 : List Nat} {B : Nat} {res : Bool} {tot : Nat} {wr w2 : World} {v : Value} {i : Nat} {ms : List M9} {m : M9} {d bl ol br or : Nat} {G G' : List (List Nat)} {es : Array MapEntry} {ck : Nat}
    (hQ : QueP w F0 B res tot wr v i ms es ck) (hb : Below wr.heap.size wr w2) : InnP w F0 B w2 v i ms m d bl ol br or G G' 0 es ck := by
  have hB : B < wr.heap.size := (Array.getElem?_eq_some_iff.1 hQ.map).1
  refine ⟨by simpa [kmsP] using own_keep2P hQ.own hb, (hb.block B hB).trans hQ.map, hQ.bel.trans (hb.mono hQ.bel.size), fun e he => ?_⟩
  obtain ⟨a, a', h1, h2, h3⟩ := hQ.keys e he
  exact ⟨a, a', h1, h2, .inl h3⟩
theorem own_keep3P {w w' : World} {N e n s : Nat} {v : Value} {xs : List Value} (h : w.ownsRow N e s v n xs) (hb : ∀ g c t l, v.ownBlock = some g → w.heap[g]? = some (.cells c t l) → w'.heap[g]? = w.heap[g]?) : w'.ownsRow N e s v n xs := by
  refine ⟨h.1, ?_⟩
  rcases h.2 with hn | ⟨g, cap, cur, rfl, hg, hc, rest⟩
  · exact .inl hn
  · exact .inr ⟨g, cap, cur, rfl, hg, (hb g _ _ _ rfl hc).trans hc, rest⟩
theorem own_shapeP {w : World} {N e n s : Nat} {v : Value} {xs : List Value} (h : w.ownsRow N e s v n xs) (hn : 0 < n) : ∃ g cap, v = .slice (some ⟨g, 0, none⟩) n cap ∧ n ≤ cap ∧ cap ≤ maxLen ∧ N ≤ g ∧ g < w.heap.size ∧ ∃ c t l, w.heap[g]? = some (.cells c t l) := by
  rcases h.2 with ⟨_, h0⟩ | ⟨g, cap, cur, rfl, hg, hc, hn', hm, _⟩
  · omega
  · refine ⟨g, cap, rfl, hn', hm, hg, ?_, _, _, _, hc⟩
    rcases Nat.lt_or_ge g w.heap.size with h' | h'
    · exact h'
    · simp [Array.getElem?_eq_none h'] at hc
theorem InnP.step {w : World} {F0 : List Nat} {B : Nat} {wr : World} {v : Value} {i : Nat} {ms : List M9} {m : M9} {d bl ol br or : Nat} {G G' : List (List Nat)} {j : Nat} {es : Array MapEntry} {ck : Nat}
    (h : InnP w F0 B wr v i ms m d bl ol br or G G' j es ck) (hbF : bl ∈ F0) {w5 : World} {v5 n : Value}
    (hown : w5.ownsRow w.heap.size 57 2 v5 (ms.length + j + 1) (mcP (ms ++ kmsP m d bl ol br or G G' j) ++ [.pointer (some ⟨bl, ol + j * 12, none⟩), .pointer (some ⟨br, or + j * 12, none⟩)]))
    (hmap : w5.heap[B]? = some (.map (es.push ⟨.agg #[.pointer (some ⟨bl, ol + j * 12, none⟩), .pointer (some ⟨br, or + j * 12, none⟩)], n, ck⟩) (ck + 1))) (hbel : Below w.heap.size w w5) :
    InnP w F0 B w5 v5 i ms m d bl ol br or G G' (j + 1) (es.push ⟨.agg #[.pointer (some ⟨bl, ol + j * 12, none⟩), .pointer (some ⟨br, or + j * 12, none⟩)], n, ck⟩) (ck + 1) := by
  refine ⟨?_, hmap, hbel, fun e he => ?_⟩
  · rw [kms_succP, ← List.append_assoc, mc_pushP]
    exact hown
  · rw [Array.toList_push] at he
    rcases List.mem_append.1 he with he | he
    · obtain ⟨a, a', h1, h2, h3⟩ := h.keys e he
      refine ⟨a, a', h1, h2, ?_⟩
      rcases h3 with h3 | ⟨hb, j', hj', ho⟩
      · exact .inl h3
      · exact .inr ⟨hb, j', by omega, ho⟩
    · rcases List.mem_singleton.1 he with rfl
      exact ⟨_, _, rfl, hbF, .inr ⟨rfl, j, by omega, rfl⟩⟩
/-- the next pair is no key yet. -/
theorem InnP.fresh {w : World} {F0 : List Nat} {B : Nat} {wr : World} {v : Value} {i : Nat} {ms : List M9} {m : M9} {d bl ol br or : Nat} {G G' : List (List Nat)} {j : Nat} {es : Array MapEntry} {ck : Nat}
    (h : InnP w F0 B wr v i ms m d bl ol br or G G' j es ck) (hm : ms[i]? = some m) (hF : bl ∈ m.F) (hFr : ∀ x ∈ F0, Fr w x ∧ x < w.heap.size) {wX : World} (hX : Below w.heap.size w wX) :
    ∀ e ∈ es.toList, ∃ a a', e.key = .agg #[.pointer (some a), .pointer (some a')] ∧ (⟨bl, ol + j * 12, none⟩ : Addr) ≠ a ∧ Fr wX a.block := by
  intro e he
  obtain ⟨a, a', h1, h2, h3⟩ := h.keys e he
  refine ⟨a, a', h1, ?_, (hFr _ h2).1.keep (hX.block _ (hFr _ h2).2)⟩
  rintro rfl
  rcases h3 with h3 | ⟨_, j', hj', ho⟩
  · refine h3 m ?_ hF
    obtain ⟨hi, rfl⟩ := List.getElem?_eq_some_iff.1 hm
    rw [List.drop_eq_getElem_cons hi]
    exact List.mem_cons_self
  · simp at ho; omega
/-- what a map's update leaves. -/
theorem upd_worldP {w wX : World} {B : Nat} {o o' : Obj} (hb : wX.heap[B]? = some o) (hB : w.heap.size ≤ B) (hX : Below w.heap.size w wX) :
    let wY : World := { wX with heap := wX.heap.setIfInBounds B o' }
    wY.heap[B]? = some o' ∧ (∀ b, b ≠ B → wY.heap[b]? = wX.heap[b]?) ∧ wY.heap.size = wX.heap.size ∧ Below w.heap.size w wY := by
  obtain ⟨h1, h2⟩ := MapKept.heap_set (w := wX) (o' := o') hb
  refine ⟨h1, h2, by simp, hX.os, hX.tape, hX.output, by simpa using hX.size, fun k hk => (h2 k (by omega)).trans (hX.block k hk)⟩
theorem Try.infoMatchP : (Try.prog.info? 57).map (fun i => (i.zero, i.size, i.bytes)) = some (some (.agg #[.pointer none, .pointer none]), 2, 16) := by kernel_rfl
end Go.Proofs.Ytflnkfjjjacjbaa
