/- Own text. append of a slice that may be empty or nil, at a step of a region that draws; the heads of a bag's rows, cut in two; a bag of the caller's own, one row less or one more. -/
import Derived.Test.YtiaafgmjigbjlaaGreatDoorBagO
import Derived.Deep.AppendLies
import Derived.Laws.OwnMore
namespace Go.Proofs.YtiaafgmjigbjlaaGreatDoor
open Go.RowKit Go.Deep Go.ChangeShapes Go.WideShapes
set_option linter.unusedVariables false
/-- the slice sv has m elements with the cells news. -/
def SrcIs (w : World) (size : Nat) (sv : Value) (m : Nat) (news : List Value) : Prop := news.length = m * size ∧ (sv = .slice none 0 0 ∧ m = 0 ∨ ∃ ad c, sv = .slice (some ad) m c ∧ ∀ j u, news[j]? = some u → w.cell? (ad.add j) = some u)
theorem step_append_src {P : Program} (w : World) {ops : Array Oper} {o : Oper} {a : Act} {K : Act → World → Prop} {Q : Exit → Act → World → Prop} {E : Prop} (hgd : o.guard = none) (s x : Operand) (t : TypeId)
    (ho : o.op = .call { callee := .builtin .append, args := #[s, x], argTypes := #[t, t] })
    (base : Nat) (e : TypeId) (i : TypeInfo) (z : Value) (size bytes : Nat) (ht : P.underlying t = some (.slice e)) (hi : P.info? e = some i) (hz : i.zero = some z)
    (hsize : i.size = size) (hby : i.bytes = bytes) (hzs : z.cells.size = size) (hsz : 0 < size)
    (v : Value) (n : Nat) (xs : List Value) (hs : a.eval s = v) (hown : w.ownsRow base e size v n xs)
    (sv : Value) (m : Nat) (news : List Value) (hx : a.eval x = sv) (hsrc : SrcIs w size sv m news) (h1 : ∀ u ∈ news, u.oneCell' = true)
    (h63 : n + m ≤ maxLen) (hbytes : (n + m) * bytes ≤ 140737488355328) (hbase : base ≤ w.heap.size)
    (h : ∀ v' w', w'.ownsRow base e size v' (n + m) (xs ++ news) → w.grownBy w' v.ownBlock → (v'.ownBlock = v.ownBlock ∨ v'.ownBlock = some w.heap.size) → K (a.put o.dst v') w') :
    if Region.wanted o (yielded ops a.tmps) = true then Oper.wp P o a w K Q else E := by
  have hw : Region.wanted o (yielded ops a.tmps) = true := by simp [Region.wanted, hgd]
  rw [if_pos hw]
  have key : ∃ v' w', (Builtin.append_ #[t, t] o.type #[v, sv]).run P w = .ok v' w' ∧ w'.ownsRow base e size v' (n + m) (xs ++ news) ∧ w.grownBy w' v.ownBlock ∧ (v'.ownBlock = v.ownBlock ∨ v'.ownBlock = some w.heap.size) := by
    obtain ⟨hl, ⟨rfl, rfl⟩ | ⟨ad, c, rfl, hc⟩⟩ := hsrc
    · have hn : news = [] := List.eq_nil_of_length_eq_zero (by simpa using hl)
      subst hn
      exact ⟨v, w, run_append_owned_none w base t o.type e i size ht hi v n xs hown, by simpa using hown, ⟨rfl, rfl, rfl, Nat.le_refl _, fun _ _ _ => rfl⟩, .inl rfl⟩
    · obtain ⟨v', w', hr, h2, h3, _, h5⟩ := run_append_own_at (P := P) w base t o.type e i z size bytes ht hi hz hsize hby hzs hsz v n xs hown ad m c news hl hc h1 h63 hbytes hbase
      exact ⟨v', w', hr, h2, h3, h5⟩
  obtain ⟨v', w', hr, h2, h3, h4⟩ := key
  unfold Oper.wp execOp
  simp only [ho, resolve, invoke, builtin, Sem.run_bind, Sem.run_pure, Result.andThen_ok, List.map_toArray, List.map_cons, List.map_nil, hs, hx, hr]
  exact h v' w' h2 h3 h4
theorem cc_append {us vs : List Value} {cs ds : List C2} (h : us.length = cs.length) : cc (us ++ vs) (cs ++ ds) = cc us cs ++ cc vs ds := by
  unfold cc
  rw [List.zip_append h, List.flatMap_append]
theorem cc_split {us : List Value} {cs : List C2} (h : us.length = cs.length) (k : Nat) (hk : k ≤ cs.length) : cc us cs = cc (us.take k) (cs.take k) ++ cc (us.drop k) (cs.drop k) := by
  rw [← cc_append (by simp [h]), List.take_append_drop, List.take_append_drop]
theorem cc_one {us : List Value} {cs : List C2} (hu : ∀ u ∈ us, u.oneCell' = true) : ∀ u ∈ cc us cs, u.oneCell' = true := by
  intro u h
  obtain ⟨p, hp, hq⟩ := List.mem_flatMap.1 h
  have := (List.of_mem_zip hp).1
  simp at hq
  rcases hq with rfl | rfl
  · exact hu _ this
  · rfl
theorem BagOwn.one {w : World} {N : Nat} {v : Value} {cs : List C2} {us : List Value} {G : List (List Nat)} (h : BagOwn w N v cs us G) : ∀ u ∈ us, u.oneCell' = true := by
  intro u hu
  obtain ⟨i, hi, rfl⟩ := List.mem_iff_getElem.1 hu
  have h1 : i < cs.length := by rw [← h.ul]; exact hi
  have h2 : i < G.length := by rw [h.gl]; exact h1
  obtain ⟨a, c, e, _⟩ := h.row i cs[i] us[i] G[i] (by simp) (by simp) (by simp)
  rw [e]; rfl
/-- the first k rows' heads, and those from k on. -/
theorem BagOwn.src1 {w w' : World} {N : Nat} {av : Option Addr} {l cap : Nat} {cs : List C2} {us : List Value} {G : List (List Nat)} (h : BagOwn w N (.slice av l cap) cs us G) (hb : Below w.heap.size w w') {k : Nat} (hk : k ≤ cs.length) :
    SrcIs w' 2 (.slice av k cap) k (cc (us.take k) (cs.take k)) := by
  refine ⟨by rw [cc_len (by simp [h.ul])]; simp; omega, ?_⟩
  obtain ⟨hl, ho⟩ := h.own
  have hlt := ownsRow_lt h.own
  rcases ho with ⟨e, h0⟩ | ⟨g, cap', cur, e, hg, hc, hn, hm, hs, ht⟩
  · cases e; left; have : k = 0 := by omega
    subst this; exact ⟨rfl, rfl⟩
  cases e
  refine .inr ⟨_, _, rfl, fun j u hu => ?_⟩
  have hj : j < k * 2 := by have := (List.getElem?_eq_some_iff.1 hu).1; rw [cc_len (by simp [h.ul])] at this; simp at this; omega
  rw [add_plain, Nat.zero_add, hb.cell (p := ⟨g, _, none⟩) (hlt g rfl).2]
  have e2 := cc_split h.ul k hk
  have hu2 : (cc us cs)[j]? = some u := by rw [e2, List.getElem?_append_left (by exact (List.getElem?_eq_some_iff.1 hu).1)]; exact hu
  simp only [World.cell?, hc]
  rw [← ht, List.getElem?_take, if_pos (by omega), Array.getElem?_toList] at hu2
  simpa using hu2
theorem BagOwn.src2 {w w' : World} {N : Nat} {av : Option Addr} {l cap : Nat} {cs : List C2} {us : List Value} {G : List (List Nat)} (h : BagOwn w N (.slice av l cap) cs us G) (hb : Below w.heap.size w w') {k : Nat} (hk : k ≤ cs.length) :
    SrcIs w' 2 (.slice (if cap = k then av else av.map fun p => p.add (k * 2)) (cs.length - k) (cap - k)) (cs.length - k) (cc (us.drop k) (cs.drop k)) := by
  refine ⟨by rw [cc_len (by simp [h.ul])]; simp, ?_⟩
  obtain ⟨hl, ho⟩ := h.own
  have hlt := ownsRow_lt h.own
  rcases ho with ⟨e, h0⟩ | ⟨g, cap', cur, e, hg, hc, hn, hm, hs, ht⟩
  · cases e; left; have : k = 0 := by omega
    subst this; simp [h0]
  cases e
  right
  by_cases hck : cap = k
  · have hz : cs.length - k = 0 := by omega
    refine ⟨_, _, by rw [if_pos hck], fun j u hu => ?_⟩
    have := (List.getElem?_eq_some_iff.1 hu).1
    rw [cc_len (by simp [h.ul])] at this
    simp at this
    omega
  refine ⟨_, _, by rw [if_neg hck]; rfl, fun j u hu => ?_⟩
  have hj : j < (cs.length - k) * 2 := by have := (List.getElem?_eq_some_iff.1 hu).1; rw [cc_len (by simp [h.ul])] at this; simpa using this
  dsimp only
  rw [add_plain, add_plain, Nat.zero_add, hb.cell (p := ⟨g, _, none⟩) (hlt g rfl).2]
  have e2 := cc_split h.ul k hk
  have hlen1 : (cc (us.take k) (cs.take k)).length = k * 2 := by rw [cc_len (by simp [h.ul])]; simp; omega
  have hu2 : (cc us cs)[k * 2 + j]? = some u := by rw [e2, List.getElem?_append_right (by omega), hlen1, Nat.add_sub_cancel_left]; exact hu
  simp only [World.cell?, hc]
  rw [← ht, List.getElem?_take, if_pos (by omega), Array.getElem?_toList] at hu2
  simpa using hu2
/-- rows that are picked out of a bag of the call's own, with another head. -/
theorem BagOwn.cut {w w' : World} {N : Nat} {v v' : Value} {cs : List C2} {us : List Value} {G : List (List Nat)} (h : BagOwn w N v cs us G) (hN : N ≤ w.heap.size) (hb : Below w.heap.size w w') {k : Nat} (hk : k < cs.length) {B : Nat} (hB : w.heap.size ≤ B)
    (ho : w'.ownsRow B 39 2 v' (k + (cs.length - (k + 1))) (cc (us.take k) (cs.take k) ++ cc (us.drop (k + 1)) (cs.drop (k + 1)))) :
    BagOwn w' N v' (cs.take k ++ cs.drop (k + 1)) (us.take k ++ us.drop (k + 1)) (G.take k ++ G.drop (k + 1)) := by
  have hsub : ∀ b ∈ (G.take k ++ G.drop (k + 1)).flatten, b ∈ G.flatten := by
    intro b hm
    obtain ⟨q, hq, hbq⟩ := List.mem_flatten.1 hm
    refine List.mem_flatten.2 ⟨q, ?_, hbq⟩
    rcases List.mem_append.1 hq with h1 | h1
    · exact List.mem_of_mem_take h1
    · exact List.mem_of_mem_drop h1
  have hkeep : ∀ b ∈ (G.take k ++ G.drop (k + 1)).flatten, w'.heap[b]? = w.heap[b]? := fun b hm => hb.block b (h.lt b (hsub b hm))
  have hul := h.ul
  have hgl := h.gl
  refine ⟨?_, by simp [hul], by simp [hgl], fun i y u q hy hu hq => ?_, ?_, fun b hv hm => ?_⟩
  · rw [cc_append (by simp [hul])]
    have := ownsRow_lt ho
    rw [show (cs.take k ++ cs.drop (k + 1)).length = k + (cs.length - (k + 1)) from by simp; omega]
    refine ⟨ho.1, ?_⟩
    rcases ho.2 with hn | ⟨g, cap, cur, e, hg, rest⟩
    · exact .inl hn
    · exact .inr ⟨g, cap, cur, e, by omega, rest⟩
  · have hi : ∃ j : Nat, cs[j]? = some y ∧ us[j]? = some u ∧ G[j]? = some q := by
      by_cases hlt : i < k
      · rw [List.getElem?_append_left (by simp; omega), List.getElem?_take, if_pos hlt] at hy hu hq
        exact ⟨i, hy, hu, hq⟩
      · rw [List.getElem?_append_right (by simp; omega), List.getElem?_drop] at hy hu hq
        simp only [List.length_take, hul, hgl, Nat.min_eq_left (Nat.le_of_lt hk)] at hy hu hq
        exact ⟨_, hy, hu, hq⟩
    obtain ⟨j, h1, h2, h3⟩ := hi
    exact (h.row j y u q h1 h2 h3).keep hb.size fun b hbq => hb.block b (h.lt b (List.mem_flatten.2 ⟨q, List.mem_of_getElem? h3, hbq⟩))
  · refine Own.keep (w := w) ⟨?_, fun b hm => h.free.2.1 b (hsub b hm), fun b hm => h.free.2.2 b (hsub b hm)⟩ hkeep
    have hnd := h.free.1
    obtain ⟨q, hq⟩ : ∃ q, G.drop k = q :: G.drop (k + 1) := ⟨G[k]'(by omega), List.drop_eq_getElem_cons (by omega)⟩
    have e : G = G.take k ++ q :: G.drop (k + 1) := by rw [← hq, List.take_append_drop]
    rw [e, List.flatten_append, List.flatten_cons, List.nodup_append] at hnd
    rw [List.flatten_append, List.nodup_append]
    obtain ⟨n1, n2, n3⟩ := hnd
    exact ⟨n1, (List.nodup_append.1 n2).2.1, fun a ha b hb' => n3 a ha b (List.mem_append.2 (.inr hb'))⟩
  · have h1 := (ownsRow_lt ho b hv).1
    have h2 := h.lt b (hsub b hm)
    omega
theorem BagOwn.put {w w1 w' : World} {N : Nat} {v v' u0 : Value} {cs : List C2} {us : List Value} {G : List (List Nat)} {x : C2} {g0 : List Nat} (h : BagOwn w N v cs us G) (hN : N ≤ w.heap.size) (hb : Below w.heap.size w w1) (hR : RowF w1 u0 x.r g0) (hO : Own w1 w.heap.size g0) (hb1 : ∀ b, b < w.heap.size ∨ b ∈ g0 → w'.heap[b]? = w1.heap[b]?) (hz : w1.heap.size ≤ w'.heap.size) {k : Nat} (hk : k ≤ cs.length) {B : Nat} (hB : w.heap.size ≤ B) (hv0 : ∀ b, v'.ownBlock = some b → b ∉ g0)
    (ho : w'.ownsRow B 39 2 v' (k + 1 + (cs.length - k)) (cc (us.take k) (cs.take k) ++ [u0, .int .i64 x.n] ++ cc (us.drop k) (cs.drop k))) :
    BagOwn w' N v' (cs.take k ++ x :: cs.drop k) (us.take k ++ u0 :: us.drop k) (G.take k ++ g0 :: G.drop k) := by
  have hul := h.ul
  have hgl := h.gl
  have hmem : ∀ b ∈ (G.take k ++ g0 :: G.drop k).flatten, b ∈ G.flatten ∨ b ∈ g0 := by
    intro b hm
    obtain ⟨q, hq, hbq⟩ := List.mem_flatten.1 hm
    rcases List.mem_append.1 hq with h1 | h1
    · exact .inl (List.mem_flatten.2 ⟨q, List.mem_of_mem_take h1, hbq⟩)
    · rcases List.mem_cons.1 h1 with rfl | h1
      · exact .inr hbq
      · exact .inl (List.mem_flatten.2 ⟨q, List.mem_of_mem_drop h1, hbq⟩)
  have hk1 : ∀ b ∈ G.flatten, w'.heap[b]? = w.heap[b]? := fun b hm => (hb1 b (.inl (h.lt b hm))).trans (hb.block b (h.lt b hm))
  have hk0 : ∀ b ∈ g0, w'.heap[b]? = w1.heap[b]? := fun b hm => hb1 b (.inr hm)
  refine ⟨?_, by simp [hul], by simp [hgl], fun i y u q hy hu hq => ?_, ⟨?_, fun b hm => ?_, fun b hm o => ?_⟩, fun b hv hm => ?_⟩
  · rw [cc_append (by simp [hul])]
    have e : cc (u0 :: us.drop k) (x :: cs.drop k) = [u0, .int .i64 x.n] ++ cc (us.drop k) (cs.drop k) := by unfold cc; rw [List.zip_cons_cons, List.flatMap_cons]
    rw [e, ← List.append_assoc, show (cs.take k ++ x :: cs.drop k).length = k + 1 + (cs.length - k) from by simp; omega]
    refine ⟨ho.1, ?_⟩
    rcases ho.2 with hn | ⟨g, cap, cur, e, hg, rest⟩
    · exact .inl hn
    · exact .inr ⟨g, cap, cur, e, by omega, rest⟩
  · have old : ∀ j : Nat, cs[j]? = some y → us[j]? = some u → G[j]? = some q → RowF w' u y.r q := fun j h1 h2 h3 =>
      (h.row j y u q h1 h2 h3).keep (Nat.le_trans hb.size hz) fun b hbq => hk1 b (List.mem_flatten.2 ⟨q, List.mem_of_getElem? h3, hbq⟩)
    by_cases hlt : i < k
    · rw [List.getElem?_append_left (by simp; omega), List.getElem?_take, if_pos hlt] at hy hu hq
      exact old i hy hu hq
    · rw [List.getElem?_append_right (by simp; omega)] at hy hu hq
      simp only [List.length_take, hul, hgl, Nat.min_eq_left hk] at hy hu hq
      cases hik : i - k with
      | zero =>
        rw [hik] at hy hu hq
        simp at hy hu hq
        subst hy hu hq
        exact hR.keep hz hk0
      | succ j =>
        rw [hik, List.getElem?_cons_succ, List.getElem?_drop] at hy hu hq
        exact old _ hy hu hq
  · have hnd := h.free.1
    rw [← List.take_append_drop k G, List.flatten_append, List.nodup_append] at hnd
    obtain ⟨n1, n2, n3⟩ := hnd
    rw [List.flatten_append, List.flatten_cons, List.nodup_append, List.nodup_append]
    have far : ∀ b, b ∈ g0 → b ∈ G.flatten → False := fun b h1 h2 => by have := hO.2.1 b h1; have := h.lt b h2; omega
    refine ⟨n1, ⟨hO.1, n2, fun a ha b hb' e => ?_⟩, fun a ha b hb' e => ?_⟩
    · subst e
      obtain ⟨q, hq, hbq⟩ := List.mem_flatten.1 hb'
      exact far a ha (List.mem_flatten.2 ⟨q, List.mem_of_mem_drop hq, hbq⟩)
    · rcases List.mem_append.1 hb' with h1 | h1
      · subst e
        obtain ⟨q, hq, hbq⟩ := List.mem_flatten.1 ha
        exact far a h1 (List.mem_flatten.2 ⟨q, List.mem_of_mem_take hq, hbq⟩)
      · exact n3 a ha b h1 e
  · rcases hmem b hm with h1 | h1
    · exact h.free.2.1 b h1
    · have := hO.2.1 b h1; omega
  · rcases hmem b hm with h1 | h1
    · exact (frozen_blk (hk1 b h1)).trans (h.free.2.2 b h1 o)
    · exact (frozen_blk (hk0 b h1)).trans (hO.2.2 b h1 o)
  · rcases hmem b hm with h1 | h1
    · have h2 := (ownsRow_lt ho b hv).1
      have h3 := h.lt b h1
      omega
    · exact hv0 b hv h1
theorem BagOwn.keepO {w w' : World} {N : Nat} {v : Value} {cs : List C2} {us : List Value} {G : List (List Nat)} (h : BagOwn w N v cs us G) (hs : w.heap.size ≤ w'.heap.size) (hv : ∀ b, v.ownBlock = some b → w'.heap[b]? = w.heap[b]?) (hg : ∀ b ∈ G.flatten, w'.heap[b]? = w.heap[b]?) : BagOwn w' N v cs us G :=
  ⟨ownsRow_keep h.own hv, h.ul, h.gl, fun i x u g hx hu hgi => (h.row i x u g hx hu hgi).keep hs fun b hb => hg b (List.mem_flatten.2 ⟨g, List.mem_of_getElem? hgi, hb⟩), h.free.keep hg, h.out⟩
theorem own_shapeX {w : World} {N e n s : Nat} {v : Value} {xs : List Value} (h : w.ownsRow N e s v n xs) : ∃ a c, v = .slice a n c := by
  rcases h.2 with ⟨rfl, rfl⟩ | ⟨g, cap, cur, rfl, _⟩
  · exact ⟨_, _, rfl⟩
  · exact ⟨_, _, rfl⟩
theorem cut_mem {G : List (List Nat)} {k b : Nat} (hm : b ∈ (G.take k ++ G.drop (k + 1)).flatten) : b ∈ G.flatten := by
  obtain ⟨q, hq, hbq⟩ := List.mem_flatten.1 hm
  refine List.mem_flatten.2 ⟨q, ?_, hbq⟩
  rcases List.mem_append.1 hq with h1 | h1
  · exact List.mem_of_mem_take h1
  · exact List.mem_of_mem_drop h1
theorem put_mem {G : List (List Nat)} {g0 : List Nat} {k b : Nat} (hm : b ∈ (G.take k ++ g0 :: G.drop k).flatten) : b ∈ G.flatten ∨ b ∈ g0 := by
  obtain ⟨q, hq, hbq⟩ := List.mem_flatten.1 hm
  rcases List.mem_append.1 hq with h1 | h1
  · exact .inl (List.mem_flatten.2 ⟨q, List.mem_of_mem_take h1, hbq⟩)
  · rcases List.mem_cons.1 h1 with rfl | h1
    · exact .inr hbq
    · exact .inl (List.mem_flatten.2 ⟨q, List.mem_of_mem_drop h1, hbq⟩)
theorem BagOwn.src3 {w w' : World} {N : Nat} {g l cap : Nat} {cs : List C2} {us : List Value} {G : List (List Nat)} (h : BagOwn w N (.slice (some ⟨g, 0, none⟩) l cap) cs us G) (hb : Below w.heap.size w w') {k : Nat} (hk : k ≤ cs.length) :
    SrcIs w' 2 (.slice (if cap = k then some ⟨g, 0, none⟩ else some ⟨g, k * 2, none⟩) (cs.length - k) (cap - k)) (cs.length - k) (cc (us.drop k) (cs.drop k)) := by
  have := h.src2 hb hk
  rwa [Option.map_some, add_plain, Nat.zero_add] at this
theorem BagOwn.src4 {w w' : World} {N : Nat} {l cap : Nat} {cs : List C2} {us : List Value} {G : List (List Nat)} (h : BagOwn w N (.slice none l cap) cs us G) (hb : Below w.heap.size w w') {k : Nat} (hk : k ≤ cs.length) :
    SrcIs w' 2 (.slice none (cs.length - k) (cap - k)) (cs.length - k) (cc (us.drop k) (cs.drop k)) := by
  have := h.src2 hb hk
  rwa [Option.map_none, ite_self] at this
theorem RowF.shapeX {w : World} {v : Value} {vs : List V3} {g : List Nat} (h : RowF w v vs g) : ∃ a c, v = .slice a vs.length c := by
  obtain ⟨a, c, h, _⟩ := h
  exact ⟨a, c, h⟩
theorem RowF.belowX {w w' : World} {v : Value} {vs : List V3} {g : List Nat} (h : RowF w v vs g) (hb : Below w.heap.size w w') : RowF w' v vs g := h.keep hb.size fun c hc => hb.block c (h.lt c hc)
/-- what l02Put leaves: the bag v' of the rows P; of the blocks that were there it has none but the elder bag's own, and only that one's head is written. -/
def PutOut (w : World) (N : Nat) (wd : Int) (v : Value) (G : List (List Nat)) (P : List C2) (e : Ending) (w' : World) : Prop :=
  ∃ v' us' G', e = .returned (.agg #[.int .i64 wd, v']) ∧ BagOwn w' N v' P us' G' ∧ (∀ b, b < w.heap.size → v'.ownBlock = some b → v.ownBlock = some b) ∧ (∀ b, b < w.heap.size → b ∈ G'.flatten → b ∈ G.flatten) ∧ Below N w w' ∧ w.grownBy w' v.ownBlock
theorem PutOut.of_below {w w' : World} {N : Nat} {wd : Int} {v v' : Value} {G G' : List (List Nat)} {us' : List Value} {P : List C2} (hB : BagOwn w' N v' P us' G') (h1 : ∀ b, b < w.heap.size → v'.ownBlock = some b → v.ownBlock = some b) (h2 : ∀ b, b < w.heap.size → b ∈ G'.flatten → b ∈ G.flatten) (hb : Below w.heap.size w w') (hN : N ≤ w.heap.size) :
    PutOut w N wd v G P (.returned (.agg #[.int .i64 wd, v'])) w' :=
  ⟨v', us', G', rfl, hB, h1, h2, hb.mono hN, hb.os, hb.tape, hb.output, hb.size, fun k hk _ => hb.block k hk⟩
theorem grown_set {w w1 : World} (h : Below w.heap.size w w1) (g o : Nat) (u : Value) : w.grownBy (w1.setCell ⟨g, o, none⟩ u) (some g) :=
  ⟨h.os, h.tape, h.output, by simpa using h.size, fun k hk hne => (Below.heap_setCell _ _ _ _ (fun e => hne (congrArg some e))).trans (h.block k hk)⟩
theorem grown_cell {w w1 : World} {row : Option Nat} (h : w.grownBy w1 row) {p : Addr} (hp : w.heap.size ≤ p.block) (u : Value) : w.grownBy (w1.setCell p u) row :=
  ⟨h.os, h.tape, h.output, by simpa using h.size, fun k hk hne => (Below.heap_setCell _ _ _ _ (by omega)).trans (h.block k hk hne)⟩
end Go.Proofs.YtiaafgmjigbjlaaGreatDoor
