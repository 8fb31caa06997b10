/- Own texts, joined: contracts that the law's proof goes by. -/
import Derived.Test.YtbmoimfimeiglaaGreatGLFnLog4
import Derived.Deep.AppendLies
import Derived.Laws.OwnMore
import Derived.Test.YtbmoimfimeiglaaGreatGLFnLog42
import Derived.Test.YtbmoimfimeiglaaGreatGLFnLog7
import Derived.Test.YtbmoimfimeiglaaGreatGLFnLog25
import Derived.Handy
import Derived.Deep.RegionHeld3
import Derived.Deep.QuietTactic
import Derived.BigQuiet
namespace Go.Proofs.YtbmoimfimeiglaaGreat
open Go.RowKit Go.Deep Go.ChangeShapes Go.WideShapes
set_option linter.unusedVariables false
def SrcIs (w : World) (size : Nat) (sv : Value) (m : Nat) (news : List Value) : Prop := news.length = m * size ∧ (sv = .slice none 0 0 ∧ m = 0 ∨ ∃ ad c, sv = .slice (some ad) m c ∧ ∀ j u, news[j]? = some u → w.cell? (ad.add j) = some u)
theorem step_append_src {P : Program} (w : World) {ops : Array Oper} {o : Oper} {a : Act} {K : Act → World → Prop} {Q : Exit → Act → World → Prop} {E : Prop} (hgd : o.guard = none) (s x : Operand) (t : TypeId)
    (ho : o.op = .call { callee := .builtin .append, args := #[s, x], argTypes := #[t, t] })
    (base : Nat) (e : TypeId) (i : TypeInfo) (z : Value) (size bytes : Nat) (ht : P.underlying t = some (.slice e)) (hi : P.info? e = some i) (hz : i.zero = some z)
    (hsize : i.size = size) (hby : i.bytes = bytes) (hzs : z.cells.size = size) (hsz : 0 < size)
    (v : Value) (n : Nat) (xs : List Value) (hs : a.eval s = v) (hown : w.ownsRow base e size v n xs)
    (sv : Value) (m : Nat) (news : List Value) (hx : a.eval x = sv) (hsrc : SrcIs w size sv m news) (h1 : ∀ u ∈ news, u.oneCell' = true)
    (h63 : n + m ≤ maxLen) (hbytes : (n + m) * bytes ≤ 140737488355328) (hbase : base ≤ w.heap.size)
    (h : ∀ v' w', w'.ownsRow base e size v' (n + m) (xs ++ news) → w.grownBy w' v.ownBlock → (v'.ownBlock = v.ownBlock ∨ v'.ownBlock = some w.heap.size) → K (a.put o.dst v') w') :
    if Region.wanted o (yielded ops a.tmps) = true then Oper.wp P o a w K Q else E := by
  have hw : Region.wanted o (yielded ops a.tmps) = true := by simp [Region.wanted, hgd]
  rw [if_pos hw]
  have key : ∃ v' w', (Builtin.append_ #[t, t] o.type #[v, sv]).run P w = .ok v' w' ∧ w'.ownsRow base e size v' (n + m) (xs ++ news) ∧ w.grownBy w' v.ownBlock ∧ (v'.ownBlock = v.ownBlock ∨ v'.ownBlock = some w.heap.size) := by
    obtain ⟨hl, ⟨rfl, rfl⟩ | ⟨ad, c, rfl, hc⟩⟩ := hsrc
    · have hn : news = [] := List.eq_nil_of_length_eq_zero (by simpa using hl)
      subst hn
      exact ⟨v, w, run_append_owned_none w base t o.type e i size ht hi v n xs hown, by simpa using hown, ⟨rfl, rfl, rfl, Nat.le_refl _, fun _ _ _ => rfl⟩, .inl rfl⟩
    · obtain ⟨v', w', hr, h2, h3, _, h5⟩ := run_append_own_at (P := P) w base t o.type e i z size bytes ht hi hz hsize hby hzs hsz v n xs hown ad m c news hl hc h1 h63 hbytes hbase
      exact ⟨v', w', hr, h2, h3, h5⟩
  obtain ⟨v', w', hr, h2, h3, h4⟩ := key
  unfold Oper.wp execOp
  simp only [ho, resolve, invoke, builtin, Sem.run_bind, Sem.run_pure, Result.andThen_ok, List.map_toArray, List.map_cons, List.map_nil, hs, hx, hr]
  exact h v' w' h2 h3 h4
theorem cc_append {us vs : List Value} {cs ds : List C2} (h : us.length = cs.length) : cc (us ++ vs) (cs ++ ds) = cc us cs ++ cc vs ds := by
  unfold cc
  rw [List.zip_append h, List.flatMap_append]
theorem cc_split {us : List Value} {cs : List C2} (h : us.length = cs.length) (k : Nat) (hk : k ≤ cs.length) : cc us cs = cc (us.take k) (cs.take k) ++ cc (us.drop k) (cs.drop k) := by
  rw [← cc_append (by simp [h]), List.take_append_drop, List.take_append_drop]
theorem cc_one {us : List Value} {cs : List C2} (hu : ∀ u ∈ us, u.oneCell' = true) : ∀ u ∈ cc us cs, u.oneCell' = true := by
  intro u h
  obtain ⟨p, hp, hq⟩ := List.mem_flatMap.1 h
  have := (List.of_mem_zip hp).1
  simp at hq
  rcases hq with rfl | rfl
  · exact hu _ this
  · rfl
theorem BagOwn.one {w : World} {N : Nat} {v : Value} {cs : List C2} {us : List Value} {G : List (List Nat)} (h : BagOwn w N v cs us G) : ∀ u ∈ us, u.oneCell' = true := by
  intro u hu
  obtain ⟨i, hi, rfl⟩ := List.mem_iff_getElem.1 hu
  have h1 : i < cs.length := by rw [← h.ul]; exact hi
  have h2 : i < G.length := by rw [h.gl]; exact h1
  obtain ⟨a, c, e, _⟩ := h.row i cs[i] us[i] G[i] (by simp) (by simp) (by simp)
  rw [e]; rfl
theorem BagOwn.src1 {w w' : World} {N : Nat} {av : Option Addr} {l cap : Nat} {cs : List C2} {us : List Value} {G : List (List Nat)} (h : BagOwn w N (.slice av l cap) cs us G) (hb : Below w.heap.size w w') {k : Nat} (hk : k ≤ cs.length) :
    SrcIs w' 2 (.slice av k cap) k (cc (us.take k) (cs.take k)) := by
  refine ⟨by rw [cc_len (by simp [h.ul])]; simp; omega, ?_⟩
  obtain ⟨hl, ho⟩ := h.own
  have hlt := ownsRow_lt h.own
  rcases ho with ⟨e, h0⟩ | ⟨g, cap', cur, e, hg, hc, hn, hm, hs, ht⟩
  · cases e; left; have : k = 0 := by omega
    subst this; exact ⟨rfl, rfl⟩
  cases e
  refine .inr ⟨_, _, rfl, fun j u hu => ?_⟩
  have hj : j < k * 2 := by have := (List.getElem?_eq_some_iff.1 hu).1; rw [cc_len (by simp [h.ul])] at this; simp at this; omega
  rw [add_plain, Nat.zero_add, hb.cell (p := ⟨g, _, none⟩) (hlt g rfl).2]
  have e2 := cc_split h.ul k hk
  have hu2 : (cc us cs)[j]? = some u := by rw [e2, List.getElem?_append_left (by exact (List.getElem?_eq_some_iff.1 hu).1)]; exact hu
  simp only [World.cell?, hc]
  rw [← ht, List.getElem?_take, if_pos (by omega), Array.getElem?_toList] at hu2
  simpa using hu2
theorem BagOwn.src2 {w w' : World} {N : Nat} {av : Option Addr} {l cap : Nat} {cs : List C2} {us : List Value} {G : List (List Nat)} (h : BagOwn w N (.slice av l cap) cs us G) (hb : Below w.heap.size w w') {k : Nat} (hk : k ≤ cs.length) :
    SrcIs w' 2 (.slice (if cap = k then av else av.map fun p => p.add (k * 2)) (cs.length - k) (cap - k)) (cs.length - k) (cc (us.drop k) (cs.drop k)) := by
  refine ⟨by rw [cc_len (by simp [h.ul])]; simp, ?_⟩
  obtain ⟨hl, ho⟩ := h.own
  have hlt := ownsRow_lt h.own
  rcases ho with ⟨e, h0⟩ | ⟨g, cap', cur, e, hg, hc, hn, hm, hs, ht⟩
  · cases e; left; have : k = 0 := by omega
    subst this; simp [h0]
  cases e
  right
  by_cases hck : cap = k
  · have hz : cs.length - k = 0 := by omega
    refine ⟨_, _, by rw [if_pos hck], fun j u hu => ?_⟩
    have := (List.getElem?_eq_some_iff.1 hu).1
    rw [cc_len (by simp [h.ul])] at this
    simp at this
    omega
  refine ⟨_, _, by rw [if_neg hck]; rfl, fun j u hu => ?_⟩
  have hj : j < (cs.length - k) * 2 := by have := (List.getElem?_eq_some_iff.1 hu).1; rw [cc_len (by simp [h.ul])] at this; simpa using this
  dsimp only
  rw [add_plain, add_plain, Nat.zero_add, hb.cell (p := ⟨g, _, none⟩) (hlt g rfl).2]
  have e2 := cc_split h.ul k hk
  have hlen1 : (cc (us.take k) (cs.take k)).length = k * 2 := by rw [cc_len (by simp [h.ul])]; simp; omega
  have hu2 : (cc us cs)[k * 2 + j]? = some u := by rw [e2, List.getElem?_append_right (by omega), hlen1, Nat.add_sub_cancel_left]; exact hu
  simp only [World.cell?, hc]
  rw [← ht, List.getElem?_take, if_pos (by omega), Array.getElem?_toList] at hu2
  simpa using hu2
theorem BagOwn.cut {w w' : World} {N : Nat} {v v' : Value} {cs : List C2} {us : List Value} {G : List (List Nat)} (h : BagOwn w N v cs us G) (hN : N ≤ w.heap.size) (hb : Below w.heap.size w w') {k : Nat} (hk : k < cs.length) {B : Nat} (hB : w.heap.size ≤ B)
    (ho : w'.ownsRow B 112 2 v' (k + (cs.length - (k + 1))) (cc (us.take k) (cs.take k) ++ cc (us.drop (k + 1)) (cs.drop (k + 1)))) :
    BagOwn w' N v' (cs.take k ++ cs.drop (k + 1)) (us.take k ++ us.drop (k + 1)) (G.take k ++ G.drop (k + 1)) := by
  have hsub : ∀ b ∈ (G.take k ++ G.drop (k + 1)).flatten, b ∈ G.flatten := by
    intro b hm
    obtain ⟨q, hq, hbq⟩ := List.mem_flatten.1 hm
    refine List.mem_flatten.2 ⟨q, ?_, hbq⟩
    rcases List.mem_append.1 hq with h1 | h1
    · exact List.mem_of_mem_take h1
    · exact List.mem_of_mem_drop h1
  have hkeep : ∀ b ∈ (G.take k ++ G.drop (k + 1)).flatten, w'.heap[b]? = w.heap[b]? := fun b hm => hb.block b (h.lt b (hsub b hm))
  have hul := h.ul
  have hgl := h.gl
  refine ⟨?_, by simp [hul], by simp [hgl], fun i y u q hy hu hq => ?_, ?_, fun b hv hm => ?_⟩
  · rw [cc_append (by simp [hul])]
    have := ownsRow_lt ho
    rw [show (cs.take k ++ cs.drop (k + 1)).length = k + (cs.length - (k + 1)) from by simp; omega]
    refine ⟨ho.1, ?_⟩
    rcases ho.2 with hn | ⟨g, cap, cur, e, hg, rest⟩
    · exact .inl hn
    · exact .inr ⟨g, cap, cur, e, by omega, rest⟩
  · have hi : ∃ j : Nat, cs[j]? = some y ∧ us[j]? = some u ∧ G[j]? = some q := by
      by_cases hlt : i < k
      · rw [List.getElem?_append_left (by simp; omega), List.getElem?_take, if_pos hlt] at hy hu hq
        exact ⟨i, hy, hu, hq⟩
      · rw [List.getElem?_append_right (by simp; omega), List.getElem?_drop] at hy hu hq
        simp only [List.length_take, hul, hgl, Nat.min_eq_left (Nat.le_of_lt hk)] at hy hu hq
        exact ⟨_, hy, hu, hq⟩
    obtain ⟨j, h1, h2, h3⟩ := hi
    exact (h.row j y u q h1 h2 h3).keep hb.size fun b hbq => hb.block b (h.lt b (List.mem_flatten.2 ⟨q, List.mem_of_getElem? h3, hbq⟩))
  · refine Own.keep (w := w) ⟨?_, fun b hm => h.free.2.1 b (hsub b hm), fun b hm => h.free.2.2 b (hsub b hm)⟩ hkeep
    have hnd := h.free.1
    obtain ⟨q, hq⟩ : ∃ q, G.drop k = q :: G.drop (k + 1) := ⟨G[k]'(by omega), List.drop_eq_getElem_cons (by omega)⟩
    have e : G = G.take k ++ q :: G.drop (k + 1) := by rw [← hq, List.take_append_drop]
    rw [e, List.flatten_append, List.flatten_cons, List.nodup_append] at hnd
    rw [List.flatten_append, List.nodup_append]
    obtain ⟨n1, n2, n3⟩ := hnd
    exact ⟨n1, (List.nodup_append.1 n2).2.1, fun a ha b hb' => n3 a ha b (List.mem_append.2 (.inr hb'))⟩
  · have h1 := (ownsRow_lt ho b hv).1
    have h2 := h.lt b (hsub b hm)
    omega
theorem BagOwn.put {w w1 w' : World} {N : Nat} {v v' u0 : Value} {cs : List C2} {us : List Value} {G : List (List Nat)} {x : C2} {g0 : List Nat} (h : BagOwn w N v cs us G) (hN : N ≤ w.heap.size) (hb : Below w.heap.size w w1) (hR : RowF w1 u0 x.r g0) (hO : Own w1 w.heap.size g0) (hb1 : ∀ b, b < w.heap.size ∨ b ∈ g0 → w'.heap[b]? = w1.heap[b]?) (hz : w1.heap.size ≤ w'.heap.size) {k : Nat} (hk : k ≤ cs.length) {B : Nat} (hB : w.heap.size ≤ B) (hv0 : ∀ b, v'.ownBlock = some b → b ∉ g0)
    (ho : w'.ownsRow B 112 2 v' (k + 1 + (cs.length - k)) (cc (us.take k) (cs.take k) ++ [u0, .int .i64 x.n] ++ cc (us.drop k) (cs.drop k))) :
    BagOwn w' N v' (cs.take k ++ x :: cs.drop k) (us.take k ++ u0 :: us.drop k) (G.take k ++ g0 :: G.drop k) := by
  have hul := h.ul
  have hgl := h.gl
  have hmem : ∀ b ∈ (G.take k ++ g0 :: G.drop k).flatten, b ∈ G.flatten ∨ b ∈ g0 := by
    intro b hm
    obtain ⟨q, hq, hbq⟩ := List.mem_flatten.1 hm
    rcases List.mem_append.1 hq with h1 | h1
    · exact .inl (List.mem_flatten.2 ⟨q, List.mem_of_mem_take h1, hbq⟩)
    · rcases List.mem_cons.1 h1 with rfl | h1
      · exact .inr hbq
      · exact .inl (List.mem_flatten.2 ⟨q, List.mem_of_mem_drop h1, hbq⟩)
  have hk1 : ∀ b ∈ G.flatten, w'.heap[b]? = w.heap[b]? := fun b hm => (hb1 b (.inl (h.lt b hm))).trans (hb.block b (h.lt b hm))
  have hk0 : ∀ b ∈ g0, w'.heap[b]? = w1.heap[b]? := fun b hm => hb1 b (.inr hm)
  refine ⟨?_, by simp [hul], by simp [hgl], fun i y u q hy hu hq => ?_, ⟨?_, fun b hm => ?_, fun b hm o => ?_⟩, fun b hv hm => ?_⟩
  · rw [cc_append (by simp [hul])]
    have e : cc (u0 :: us.drop k) (x :: cs.drop k) = [u0, .int .i64 x.n] ++ cc (us.drop k) (cs.drop k) := by unfold cc; rw [List.zip_cons_cons, List.flatMap_cons]
    rw [e, ← List.append_assoc, show (cs.take k ++ x :: cs.drop k).length = k + 1 + (cs.length - k) from by simp; omega]
    refine ⟨ho.1, ?_⟩
    rcases ho.2 with hn | ⟨g, cap, cur, e, hg, rest⟩
    · exact .inl hn
    · exact .inr ⟨g, cap, cur, e, by omega, rest⟩
  · have old : ∀ j : Nat, cs[j]? = some y → us[j]? = some u → G[j]? = some q → RowF w' u y.r q := fun j h1 h2 h3 =>
      (h.row j y u q h1 h2 h3).keep (Nat.le_trans hb.size hz) fun b hbq => hk1 b (List.mem_flatten.2 ⟨q, List.mem_of_getElem? h3, hbq⟩)
    by_cases hlt : i < k
    · rw [List.getElem?_append_left (by simp; omega), List.getElem?_take, if_pos hlt] at hy hu hq
      exact old i hy hu hq
    · rw [List.getElem?_append_right (by simp; omega)] at hy hu hq
      simp only [List.length_take, hul, hgl, Nat.min_eq_left hk] at hy hu hq
      cases hik : i - k with
      | zero =>
        rw [hik] at hy hu hq
        simp at hy hu hq
        subst hy hu hq
        exact hR.keep hz hk0
      | succ j =>
        rw [hik, List.getElem?_cons_succ, List.getElem?_drop] at hy hu hq
        exact old _ hy hu hq
  · have hnd := h.free.1
    rw [← List.take_append_drop k G, List.flatten_append, List.nodup_append] at hnd
    obtain ⟨n1, n2, n3⟩ := hnd
    rw [List.flatten_append, List.flatten_cons, List.nodup_append, List.nodup_append]
    have far : ∀ b, b ∈ g0 → b ∈ G.flatten → False := fun b h1 h2 => by have := hO.2.1 b h1; have := h.lt b h2; omega
    refine ⟨n1, ⟨hO.1, n2, fun a ha b hb' e => ?_⟩, fun a ha b hb' e => ?_⟩
    · subst e
      obtain ⟨q, hq, hbq⟩ := List.mem_flatten.1 hb'
      exact far a ha (List.mem_flatten.2 ⟨q, List.mem_of_mem_drop hq, hbq⟩)
    · rcases List.mem_append.1 hb' with h1 | h1
      · subst e
        obtain ⟨q, hq, hbq⟩ := List.mem_flatten.1 ha
        exact far a h1 (List.mem_flatten.2 ⟨q, List.mem_of_mem_take hq, hbq⟩)
      · exact n3 a ha b h1 e
  · rcases hmem b hm with h1 | h1
    · exact h.free.2.1 b h1
    · have := hO.2.1 b h1; omega
  · rcases hmem b hm with h1 | h1
    · exact (frozen_blk (hk1 b h1)).trans (h.free.2.2 b h1 o)
    · exact (frozen_blk (hk0 b h1)).trans (hO.2.2 b h1 o)
  · rcases hmem b hm with h1 | h1
    · have h2 := (ownsRow_lt ho b hv).1
      have h3 := h.lt b h1
      omega
    · exact hv0 b hv h1
theorem BagOwn.keepO {w w' : World} {N : Nat} {v : Value} {cs : List C2} {us : List Value} {G : List (List Nat)} (h : BagOwn w N v cs us G) (hs : w.heap.size ≤ w'.heap.size) (hv : ∀ b, v.ownBlock = some b → w'.heap[b]? = w.heap[b]?) (hg : ∀ b ∈ G.flatten, w'.heap[b]? = w.heap[b]?) : BagOwn w' N v cs us G :=
  ⟨ownsRow_keep h.own hv, h.ul, h.gl, fun i x u g hx hu hgi => (h.row i x u g hx hu hgi).keep hs fun b hb => hg b (List.mem_flatten.2 ⟨g, List.mem_of_getElem? hgi, hb⟩), h.free.keep hg, h.out⟩
theorem own_shapeX {w : World} {N e n s : Nat} {v : Value} {xs : List Value} (h : w.ownsRow N e s v n xs) : ∃ a c, v = .slice a n c := by
  rcases h.2 with ⟨rfl, rfl⟩ | ⟨g, cap, cur, rfl, _⟩
  · exact ⟨_, _, rfl⟩
  · exact ⟨_, _, rfl⟩
theorem cut_mem {G : List (List Nat)} {k b : Nat} (hm : b ∈ (G.take k ++ G.drop (k + 1)).flatten) : b ∈ G.flatten := by
  obtain ⟨q, hq, hbq⟩ := List.mem_flatten.1 hm
  refine List.mem_flatten.2 ⟨q, ?_, hbq⟩
  rcases List.mem_append.1 hq with h1 | h1
  · exact List.mem_of_mem_take h1
  · exact List.mem_of_mem_drop h1
theorem put_mem {G : List (List Nat)} {g0 : List Nat} {k b : Nat} (hm : b ∈ (G.take k ++ g0 :: G.drop k).flatten) : b ∈ G.flatten ∨ b ∈ g0 := by
  obtain ⟨q, hq, hbq⟩ := List.mem_flatten.1 hm
  rcases List.mem_append.1 hq with h1 | h1
  · exact .inl (List.mem_flatten.2 ⟨q, List.mem_of_mem_take h1, hbq⟩)
  · rcases List.mem_cons.1 h1 with rfl | h1
    · exact .inr hbq
    · exact .inl (List.mem_flatten.2 ⟨q, List.mem_of_mem_drop h1, hbq⟩)
theorem BagOwn.src3 {w w' : World} {N : Nat} {g l cap : Nat} {cs : List C2} {us : List Value} {G : List (List Nat)} (h : BagOwn w N (.slice (some ⟨g, 0, none⟩) l cap) cs us G) (hb : Below w.heap.size w w') {k : Nat} (hk : k ≤ cs.length) :
    SrcIs w' 2 (.slice (if cap = k then some ⟨g, 0, none⟩ else some ⟨g, k * 2, none⟩) (cs.length - k) (cap - k)) (cs.length - k) (cc (us.drop k) (cs.drop k)) := by
  have := h.src2 hb hk
  rwa [Option.map_some, add_plain, Nat.zero_add] at this
theorem BagOwn.src4 {w w' : World} {N : Nat} {l cap : Nat} {cs : List C2} {us : List Value} {G : List (List Nat)} (h : BagOwn w N (.slice none l cap) cs us G) (hb : Below w.heap.size w w') {k : Nat} (hk : k ≤ cs.length) :
    SrcIs w' 2 (.slice none (cs.length - k) (cap - k)) (cs.length - k) (cc (us.drop k) (cs.drop k)) := by
  have := h.src2 hb hk
  rwa [Option.map_none, ite_self] at this
theorem RowF.shapeX {w : World} {v : Value} {vs : List V3} {g : List Nat} (h : RowF w v vs g) : ∃ a c, v = .slice a vs.length c := by
  obtain ⟨a, c, h, _⟩ := h
  exact ⟨a, c, h⟩
theorem RowF.belowX {w w' : World} {v : Value} {vs : List V3} {g : List Nat} (h : RowF w v vs g) (hb : Below w.heap.size w w') : RowF w' v vs g := h.keep hb.size fun c hc => hb.block c (h.lt c hc)
def PutOut (w : World) (N : Nat) (wd : Int) (v : Value) (G : List (List Nat)) (P : List C2) (e : Ending) (w' : World) : Prop :=
  ∃ v' us' G', e = .returned (.agg #[.int .i64 wd, v']) ∧ BagOwn w' N v' P us' G' ∧ (∀ b, b < w.heap.size → v'.ownBlock = some b → v.ownBlock = some b) ∧ (∀ b, b < w.heap.size → b ∈ G'.flatten → b ∈ G.flatten) ∧ Below N w w' ∧ w.grownBy w' v.ownBlock
theorem PutOut.of_below {w w' : World} {N : Nat} {wd : Int} {v v' : Value} {G G' : List (List Nat)} {us' : List Value} {P : List C2} (hB : BagOwn w' N v' P us' G') (h1 : ∀ b, b < w.heap.size → v'.ownBlock = some b → v.ownBlock = some b) (h2 : ∀ b, b < w.heap.size → b ∈ G'.flatten → b ∈ G.flatten) (hb : Below w.heap.size w w') (hN : N ≤ w.heap.size) :
    PutOut w N wd v G P (.returned (.agg #[.int .i64 wd, v'])) w' :=
  ⟨v', us', G', rfl, hB, h1, h2, hb.mono hN, hb.os, hb.tape, hb.output, hb.size, fun k hk _ => hb.block k hk⟩
theorem grown_set {w w1 : World} (h : Below w.heap.size w w1) (g o : Nat) (u : Value) : w.grownBy (w1.setCell ⟨g, o, none⟩ u) (some g) :=
  ⟨h.os, h.tape, h.output, by simpa using h.size, fun k hk hne => (Below.heap_setCell _ _ _ _ (fun e => hne (congrArg some e))).trans (h.block k hk)⟩
theorem grown_cell {w w1 : World} {row : Option Nat} (h : w.grownBy w1 row) {p : Addr} (hp : w.heap.size ≤ p.block) (u : Value) : w.grownBy (w1.setCell p u) row :=
  ⟨h.os, h.tape, h.output, by simpa using h.size, fun k hk hne => (Below.heap_setCell _ _ _ _ (by omega)).trans (h.block k hk hne)⟩
end Go.Proofs.YtbmoimfimeiglaaGreat
namespace Go.Proofs.YtbmoimfimeiglaaGreat
open Go.RowKit Go.Deep Go.ChangeShapes Go.WideShapes
set_option linter.unusedVariables false
theorem BagOwn.cellsX {w : World} {N : Nat} {v : Value} {cs : List C2} {us : List Value} {G : List (List Nat)} (h : BagOwn w N v cs us G) {i : Nat} {x : C2} (hx : cs[i]? = some x) :
    ∃ g cap u gg, v = .slice (some ⟨g, 0, none⟩) cs.length cap ∧ cs.length ≤ cap ∧ cap ≤ maxLen ∧ N ≤ g ∧ g < w.heap.size ∧ us[i]? = some u ∧ G[i]? = some gg ∧ w.cell? ⟨g, i * 2, none⟩ = some u ∧ w.cell? ⟨g, i * 2 + 1, none⟩ = some (.int .i64 x.n) ∧ RowF w u x.r gg ∧ ∀ q, w.frozen? ⟨g, q, none⟩ = false := by
  have hi : i < cs.length := (List.getElem?_eq_some_iff.1 hx).1
  have hiu : i < us.length := by rw [h.ul]; exact hi
  have hig : i < G.length := by rw [h.gl]; exact hi
  have hlt := ownsRow_lt h.own
  obtain ⟨hl, ho⟩ := h.own
  rcases ho with ⟨_, h0⟩ | ⟨g, cap, cur, rfl, hg, hc, hn, hm, hs, ht⟩
  · omega
  obtain ⟨e0, e1⟩ := cc_at h.ul (i := i) (u := us[i]) (x := x) (by simp) hx
  have get : ∀ j u, j < cs.length * 2 → (cc us cs)[j]? = some u → w.cell? ⟨g, j, none⟩ = some u := by
    intro j u hj hu
    simp only [World.cell?, hc]
    rw [← ht, List.getElem?_take, if_pos hj, Array.getElem?_toList] at hu
    simpa using hu
  exact ⟨g, cap, us[i], G[i], rfl, hn, hm, hg, (hlt g rfl).2, by simp, by simp, get _ _ (by omega) e0, get _ _ (by omega) e1, h.row i x us[i] G[i] hx (by simp) (by simp), fun q => by simp [World.frozen?, hc]⟩
set_option maxHeartbeats 4000000 in
set_option maxRecDepth 100000 in
theorem l02Put_any (wd n : Int) (v rv : Value) (cs : List C2) (us : List Value) (G : List (List Nat)) (row : List V3) (g0 : List Nat) (N : Nat) (w : World) (hB : BagOwn w N v cs us G) (hr : RowF w rv row g0) (hA : Asc cs) (hN : N ≤ w.heap.size) (hl : cs.length ≤ 2097152) (hrl : row.length ≤ 1048576) (hn0 : -1000000000000000000 ≤ n) (hn1 : n ≤ 1000000000000000000) (hc : ∀ c ∈ cs, -4000000000000000000 ≤ c.n ∧ c.n ≤ 4000000000000000000) (P : List C2) (hP : Hid (putC cs row n = P)) :
    Calls Tryz.prog 85 #[.agg #[.int .i64 wd, v], rv, .int .i64 n] w (PutOut w N wd v G P) := by
  obtain ⟨av, cv, rfl⟩ := hB.shape
  have hcv : cs.length ≤ cv ∧ cv ≤ 9223372036854775807 := by
    rcases hB.own.2 with ⟨e, h0⟩ | ⟨g, cap, cur, e, _, _, h1, h2, _⟩
    · injection e with _ _ e3; omega
    · injection e with _ _ e3; unfold maxLen at h2; omega
  have hr0 := hr
  obtain ⟨ar, cr, rfl, _, _, _⟩ := hr
  go_enter Tryz.func85, Tryz.ntmps85
  go_wp2_with fail
  go_region_held3 (fun w' => w'.cell? ⟨w.heap.size, 1, none⟩ = some (.slice av cs.length cv)) (go_simp) (fail)
  go_wp2_with fail
  go_loopw [7, 8] (fun l h wr => ∃ lo hi : Nat, l = .int .i64 lo ∧ h = .int .i64 hi ∧ lo ≤ ahead cs row ∧ ahead cs row ≤ hi ∧ hi ≤ cs.length ∧ Below w.heap.size w wr ∧ w.heap.size + 1 < wr.heap.size ∧ wr.cell? ⟨w.heap.size, 0, none⟩ = some (.int .i64 wd) ∧ wr.cell? ⟨w.heap.size, 1, none⟩ = some (.slice av cs.length cv) ∧ (∀ q, wr.frozen? ⟨w.heap.size, q, none⟩ = false) ∧ wr.cell? ⟨w.heap.size + 1, 0, none⟩ = some (.int .i64 0) ∧ wr.cell? ⟨w.heap.size + 1, 1, none⟩ = some (.slice none 0 0) ∧ (∀ q, wr.frozen? ⟨w.heap.size + 1, q, none⟩ = false)) (fun l h _ => (intOf h).toNat - (intOf l).toNat)
  case atStart => exact ⟨0, cs.length, rfl, rfl, Nat.zero_le _, ahead_le _ _, Nat.le_refl _, bex, by simp, by go_simp, by go_simp, fun q => by go_simp, by go_simp, by go_simp, fun q => by go_simp⟩
  case round =>
    obtain ⟨lo, hi, rfl, rfl, h1, h2, h3, hb, hz, b0, b1, bf, t0, t1, tf⟩ := hrel
    have hzb := hb.size
    by_cases hlt : lo < hi
    · obtain ⟨mid, hmid⟩ : ∃ m, m = (lo + hi) / 2 := ⟨_, rfl⟩
      have hm1 : lo ≤ mid := by omega
      have hm2 : mid < hi := by omega
      have hq : (((lo : Int) + (hi : Int)).tdiv 2) = (mid : Int) := by
        rw [Int.tdiv_eq_ediv_of_nonneg (by omega)]
        omega
      obtain ⟨x, hx⟩ : ∃ x, cs[mid]? = some x := ⟨cs[mid]'(by omega), by simp⟩
      obtain ⟨g, cap, u, gg, hv, _, _, hgN, hgl, hu, hgg, c0, c1, hR, _⟩ := hB.cellsX hx
      injection hv with e1 _ e3
      subst e1 e3
      have d0 := (hb.cell (p := ⟨g, _, none⟩) hgl).trans c0
      have hgr : g < wr.heap.size := by omega
      have hmI : (mid : Int) < cs.length := by omega
      have hmI0 : (0 : Int) ≤ mid := by omega
      have hiff := ahead_lt (row := row) hA hx
      clear hx c0 c1 hmid
      by_cases hcmp : cmpRow x.r row < 0
      · have hd : decide (cmpRow x.r row < 0) = true := by simpa using hcmp
        have hah := hiff.2 hcmp
        go_wp2_with fail
        refine Calls.mono (specRow_any u (.slice ar row.length cr) x.r row wr (hR.is.below hb) (hr0.is.below hb)) ?_
        rintro z w1 ⟨rfl, hb1⟩
        have hz1 := hb1.size
        have hbw1 : Below w.heap.size w w1 := hb.trans (hb1.mono hb.size)
        have B0 := ((bcell hb1).1 _ _ (show w.heap.size < wr.heap.size by omega)).trans b0
        have B1 := ((bcell hb1).1 _ _ (show w.heap.size < wr.heap.size by omega)).trans b1
        have BF : ∀ q, w1.frozen? ⟨w.heap.size, q, none⟩ = false := fun q => ((bcell hb1).2 _ q (show w.heap.size < wr.heap.size by omega)).trans (bf q)
        have T0 := ((bcell hb1).1 _ _ hz).trans t0
        have T1 := ((bcell hb1).1 _ _ hz).trans t1
        have TF : ∀ q, w1.frozen? ⟨w.heap.size + 1, q, none⟩ = false := fun q => ((bcell hb1).2 _ q hz).trans (tf q)
        clear hb1 b0 b1 bf t0 t1 tf
        go_wp2
        exact ⟨⟨mid + 1, hi, by simp, rfl, hah, h2, h3, hbw1, by omega, B0, B1, BF, T0, T1, TF⟩, by simp [intOf]; omega⟩
      · have hd : decide (cmpRow x.r row < 0) = false := by simpa using hcmp
        have hah : ahead cs row ≤ mid := by
          rcases Nat.lt_or_ge mid (ahead cs row) with h | h
          · exact absurd (hiff.1 h) hcmp
          · exact h
        go_wp2_with fail
        refine Calls.mono (specRow_any u (.slice ar row.length cr) x.r row wr (hR.is.below hb) (hr0.is.below hb)) ?_
        rintro z w1 ⟨rfl, hb1⟩
        have hz1 := hb1.size
        have hbw1 : Below w.heap.size w w1 := hb.trans (hb1.mono hb.size)
        have B0 := ((bcell hb1).1 _ _ (show w.heap.size < wr.heap.size by omega)).trans b0
        have B1 := ((bcell hb1).1 _ _ (show w.heap.size < wr.heap.size by omega)).trans b1
        have BF : ∀ q, w1.frozen? ⟨w.heap.size, q, none⟩ = false := fun q => ((bcell hb1).2 _ q (show w.heap.size < wr.heap.size by omega)).trans (bf q)
        have T0 := ((bcell hb1).1 _ _ hz).trans t0
        have T1 := ((bcell hb1).1 _ _ hz).trans t1
        have TF : ∀ q, w1.frozen? ⟨w.heap.size + 1, q, none⟩ = false := fun q => ((bcell hb1).2 _ q hz).trans (tf q)
        clear hb1 b0 b1 bf t0 t1 tf
        go_wp2
        exact ⟨⟨lo, mid, rfl, rfl, h1, hah, by omega, hbw1, by omega, B0, B1, BF, T0, T1, TF⟩, by simp [intOf]; omega⟩
    · have hlo : lo = ahead cs row := by omega
      cases hx : cs[lo]? with
      | none =>
        have hll : cs.length = lo := by have := List.getElem?_eq_none_iff.1 hx; omega
        have hPi : P = if n ≠ 0 then cs.take lo ++ (⟨row, n⟩ : C2) :: cs.drop lo else cs := by rw [← hP.out]; unfold putC; rw [← hlo, hx]
        have hll2 : decide ((lo : Int) < cs.length) = false := by simp; omega
        by_cases hn : n ≠ 0
        · have hPn : Hid (P = cs.take lo ++ (⟨row, n⟩ : C2) :: cs.drop lo) := by rw [if_pos hn] at hPi; exact hPi
          have B0 := b0
          have B1 := b1
          have BF := bf
          have T0 := t0
          have T1 := t1
          have TF := tf
          have hbw1 := hb
          have hB1 := hB.below hb
          have hlc : lo ≤ cv := by omega
          have hI1 : (lo : Int) ≤ cs.length := by omega
          have hI2 : lo ≤ cs.length := by omega
          have hnb : (n != 0) = true := by simpa using hn
          have hGl := hB.lt
          have hsh : av = none ∨ ∃ g, av = some ⟨g, 0, none⟩ := by
            rcases hB.own.2 with ⟨e, _⟩ | ⟨g, cap, cur, e, _⟩
            · injection e with e; exact .inl e
            · injection e with e; exact .inr ⟨g, e⟩
          have hllH : Hid (cs.length = lo) := hll
          have hnl : ¬ (lo < cs.length) := by omega
          have hnl2 : ¬ ((lo : Int) < cs.length) := by omega
          clear hPi hlo hP hx b0 b1 bf t0 t1 tf hll
          rcases hsh with rfl | ⟨g, rfl⟩
          · go_wp2_with fail
            obtain ⟨i0, fi, f0, f1, f2⟩ := info_parts Tryz.infoCnt
            refine startE 18 (fun w' => w'.cell? ⟨w.heap.size, 1, none⟩ = some (.slice none cs.length cv)) (by kernel_rfl) ?_ (fun hHeld => ?_)
            · (try dsimp only)
              exact B1
            refine tkE (i := 1) (d := 82) (v := ?_) rfl rfl ?_ ?_
            rotate_left
            · intro w' hSw; (try dsimp only at hSw); go_simp; try exact rfl
            try simp only [List.setIfInBounds_toArray, List.set_cons_zero, List.set_cons_succ]
            refine tkE (i := 2) (d := 83) (v := ?_) rfl rfl ?_ ?_
            rotate_left
            · intro w' hSw; (try dsimp only at hSw); go_simp; try exact rfl
            try simp only [List.setIfInBounds_toArray, List.set_cons_zero, List.set_cons_succ]
            refine tkE (i := 3) (d := 84) (v := ?_) rfl rfl ?_ ?_
            rotate_left
            · intro w' hSw; (try dsimp only at hSw); go_simp; try exact rfl
            try simp only [List.setIfInBounds_toArray, List.set_cons_zero, List.set_cons_succ]
            refine tkE (i := 4) (d := 85) (v := ?_) rfl rfl ?_ ?_
            rotate_left
            · intro w' hSw; (try dsimp only at hSw); go_simp; try exact rfl
            try simp only [List.setIfInBounds_toArray, List.set_cons_zero, List.set_cons_succ]
            refine tkE (i := 6) (d := 87) (v := ?_) rfl rfl ?_ ?_
            rotate_left
            · intro w' hSw; (try dsimp only at hSw); go_simp; try exact rfl
            try simp only [List.setIfInBounds_toArray, List.set_cons_zero, List.set_cons_succ]
            refine tkE (i := 8) (d := 89) (v := ?_) rfl rfl ?_ ?_
            rotate_left
            · intro w' hSw; (try dsimp only at hSw); go_simp; try exact rfl
            try simp only [List.setIfInBounds_toArray, List.set_cons_zero, List.set_cons_succ]
            refine tkE (i := 12) (d := 93) (v := ?_) rfl rfl ?_ ?_
            rotate_left
            · intro w' hSw; (try dsimp only at hSw); go_simp; try exact rfl
            try simp only [List.setIfInBounds_toArray, List.set_cons_zero, List.set_cons_succ]
            refine tkE (i := 13) (d := 94) (v := ?_) rfl rfl ?_ ?_
            rotate_left
            · intro w' hSw; (try dsimp only at hSw); go_simp; try exact rfl
            try simp only [List.setIfInBounds_toArray, List.set_cons_zero, List.set_cons_succ]
            refine tkE (i := 14) (d := 95) (v := ?_) rfl rfl ?_ ?_
            rotate_left
            · intro w' hSw; (try dsimp only at hSw); go_simp; try exact rfl
            try simp only [List.setIfInBounds_toArray, List.set_cons_zero, List.set_cons_succ]
            refine tkE (i := 15) (d := 96) (v := ?_) rfl rfl ?_ ?_
            rotate_left
            · intro w' hSw; (try dsimp only at hSw); go_simp; try exact rfl
            try simp only [List.setIfInBounds_toArray, List.set_cons_zero, List.set_cons_succ]
            refine oneE (i := 0) (by kernel_rfl) rfl (fun K hK => ?_)
            go_simp
            refine hK.out _ _ ?_ (fun hHeld0 => ?_)
            · intro _
              (try dsimp only)
              exact (cell_blk (Below.heap_alloc wr _ _ (by omega))).trans B1
            clear hK
            replace hHeld0 := hHeld0 (by decide)
            try simp only [List.setIfInBounds_toArray, List.set_cons_zero, List.set_cons_succ]
            refine oneE (i := 5) (by kernel_rfl) rfl (fun K hK => ?_)
            refine step_append_src _ (by rfl) _ _ _ (by rfl) wr.heap.size 112 i0 _ 2 32 Tryz.underlying69 fi f0 f1 f2 rfl (by omega) (.slice (some ⟨wr.heap.size, 0, none⟩) 0 0) 0 [] (by rfl) (own_none (w := wr) rfl (Nat.le_refl _) _ 2) (.slice none lo cv) lo _ (by rfl) (hB1.src1 (bex) (by omega)) (cc_one fun u hu => hB1.one u (List.mem_of_mem_take hu)) (by simp only [maxLen]; omega) (by omega) (by simp) ?_
            intro v5 w5 hown5 hgrow5 hat5
            rw [List.nil_append, Nat.zero_add] at hown5
            have hz5 := hgrow5.size
            simp at hz5
            have bel5 : Below wr.heap.size wr w5 := Below.grown (show Below wr.heap.size wr _ from bex) hgrow5 (by simp) (fun b hb => by simp [Value.ownBlock] at hb; omega)
            refine hK.out _ _ ?_ (fun hHeld5 => ?_)
            · intro _
              (try dsimp only)
              exact ((bcell bel5).1 _ _ (by omega)).trans B1
            clear hK
            replace hHeld5 := hHeld5 (by decide)
            try simp only [List.setIfInBounds_toArray, List.set_cons_zero, List.set_cons_succ]
            refine oneE (i := 7) (by kernel_rfl) rfl (fun K hK => ?_)
            go_simp
            go_at_call 108
            refine Calls.mono (l02CopyRow_any (.slice ar row.length cr) row g0 _ (hr0.belowX (hbw1.trans (bel5.mono hbw1.size))) hrl) ?_
            rintro e w7 ⟨⟨u7, g7, rfl, hR7, hO7⟩, hb7⟩
            obtain ⟨a7, c7, rfl⟩ := hR7.shapeX
            have hz7 := hb7.size
            have bel7 : Below wr.heap.size wr w7 := bel5.trans (hb7.mono bel5.size)
            have hown7 := ownsRow_keep hown5 (fun b hb => hb7.block b (ownsRow_lt hown5 b hb).2)
            have hR7l := hR7.lt
            try go_wp2_with fail
            refine hK.out _ _ ?_ (fun hHeld7 => ?_)
            · intro _
              (try dsimp only)
              exact ((bcell bel7).1 _ _ (by omega)).trans B1
            clear hK
            replace hHeld7 := hHeld7 (by decide)
            try simp only [List.setIfInBounds_toArray, List.set_cons_zero, List.set_cons_succ]
            refine tkE (i := 9) (d := 90) (v := ?_) rfl rfl ?_ ?_
            rotate_left
            · intro w' hSw; (try dsimp only at hSw); go_simp; try exact rfl
            try simp only [List.setIfInBounds_toArray, List.set_cons_zero, List.set_cons_succ]
            refine oneE (i := 10) (by kernel_rfl) rfl (fun K hK => ?_)
            go_simp
            refine hK.out _ _ ?_ (fun hHeld10 => ?_)
            · intro _
              (try dsimp only)
              exact (cell_blk (Below.heap_alloc w7 _ _ (by omega))).trans (((bcell bel7).1 _ _ (by omega)).trans B1)
            clear hK
            replace hHeld10 := hHeld10 (by decide)
            try simp only [List.setIfInBounds_toArray, List.set_cons_zero, List.set_cons_succ]
            refine oneE (i := 11) (by kernel_rfl) rfl (fun K hK => ?_)
            refine step_append_src _ (by rfl) _ _ _ (by rfl) wr.heap.size 112 i0 _ 2 32 Tryz.underlying69 fi f0 f1 f2 rfl (by omega) v5 lo _ (by rfl) (ownsRow_keep hown7 fun b hb => Below.heap_alloc w7 _ _ (ownsRow_lt hown7 b hb).2) (.slice (some ⟨w7.heap.size, 0, none⟩) 1 1) 1 [.slice a7 row.length c7, .int .i64 n] (by rfl) ⟨by rfl, .inr ⟨_, _, rfl, World.news_of_block (cs := #[.slice a7 row.length c7, .int .i64 n]) (t := 112) (fr := (0, 0)) (heap_alloc_new w7 _)⟩⟩ (by simp [Value.oneCell']) (by simp only [maxLen]; omega) (by omega) (by simp; omega) ?_
            intro v11 w11 hown11 hgrow11 hat11
            have hz11 := hgrow11.size
            simp at hz11
            have bel11 : Below wr.heap.size wr w11 := Below.grown (bel7.alloc (by omega) _) hgrow11 (by simp; omega) (fun b hb => (ownsRow_lt hown7 b hb).1)
            refine hK.out _ _ ?_ (fun hHeld11 => ?_)
            · intro _
              (try dsimp only)
              exact ((bcell bel11).1 _ _ (by omega)).trans B1
            clear hK
            replace hHeld11 := hHeld11 (by decide)
            try simp only [List.setIfInBounds_toArray, List.set_cons_zero, List.set_cons_succ]
            refine oneE (i := 16) (by kernel_rfl) rfl (fun K hK => ?_)
            refine step_append_src _ (by rfl) _ _ _ (by rfl) wr.heap.size 112 i0 _ 2 32 Tryz.underlying69 fi f0 f1 f2 rfl (by omega) v11 (lo + 1) _ (by rfl) hown11 _ (cs.length - lo) _ (by rfl) (by have hsr := hB1.src4 (k := lo) bel11 (by omega); exact hsr) (cc_one fun u hu => hB1.one u (List.mem_of_mem_drop hu)) (by simp only [maxLen]; omega) (by omega) (by omega) ?_
            intro v16 w16 hown16 hgrow16 hat16
            have hz16 := hgrow16.size
            obtain ⟨a16, c16, rfl⟩ := own_shapeX hown16
            have bel16 : Below wr.heap.size wr w16 := Below.grown bel11 hgrow16 (by omega) (fun b hb => (ownsRow_lt hown11 b hb).1)
            have hv11 : ∀ b, v11.ownBlock = some b → b ∉ g7 := by
              intro b hb hm
              have h1 := hO7.2.1 b hm
              have h2 := hR7l b hm
              rcases hat11 with h | h
              · have := (ownsRow_lt hown5 b (h.symm.trans hb)).2; omega
              · rw [h] at hb; have := Option.some.inj hb; simp at this; omega
            have hv16 : ∀ b, (Value.slice a16 (lo + 1 + (cs.length - lo)) c16).ownBlock = some b → b ∉ g7 := by
              intro b hb hm
              have h2 := hR7l b hm
              rcases hat16 with h | h
              · exact hv11 b (h.symm.trans hb) hm
              · rw [h] at hb; have := Option.some.inj hb; omega
            have hk16 : ∀ b, b < wr.heap.size ∨ b ∈ g7 → w16.heap[b]? = w7.heap[b]? := by
              intro b hb
              rcases hb with hb | hb
              · exact (bel16.block b hb).trans (bel7.block b hb).symm
              · have h1 := hO7.2.1 b hb
                have h2 := hR7l b hb
                refine (hgrow16.block b (by omega) (fun e => hv11 b e.symm hb)).trans ((hgrow11.block b (by simp; omega) (fun e => ?_)).trans (Below.heap_alloc w7 _ _ h2))
                have := (ownsRow_lt hown5 b e.symm).2
                omega
            have hBc := hB1.put (x := ⟨row, n⟩) (by omega) bel7 hR7 ⟨hO7.1, fun b hb => Nat.le_trans bel5.size (hO7.2.1 b hb), hO7.2.2⟩ hk16 (by omega) (k := lo) (by omega) (Nat.le_refl _) hv16 hown16
            have B016 := ((bcell bel16).1 w.heap.size 0 (by omega)).trans B0
            have B116 := ((bcell bel16).1 w.heap.size 1 (by omega)).trans B1
            have BF16 : ∀ q, w16.frozen? ⟨w.heap.size, q, none⟩ = false := fun q => ((bcell bel16).2 w.heap.size q (by omega)).trans (BF q)
            have T016 := ((bcell bel16).1 (w.heap.size + 1) 0 (by omega)).trans T0
            have T116 := ((bcell bel16).1 (w.heap.size + 1) 1 (by omega)).trans T1
            have TF16 : ∀ q, w16.frozen? ⟨w.heap.size + 1, q, none⟩ = false := fun q => ((bcell bel16).2 (w.heap.size + 1) q (by omega)).trans (TF q)
            refine hK.out _ _ ?_ (fun hHeld16 => ?_)
            · intro _
              (try dsimp only)
              exact B116
            clear hK
            replace hHeld16 := hHeld16 (by decide)
            try simp only [List.setIfInBounds_toArray, List.set_cons_zero, List.set_cons_succ]
            refine tkE (i := 17) (d := 98) (v := ?_) rfl rfl ?_ ?_
            rotate_left
            · intro w' hSw; (try dsimp only at hSw); go_simp; try exact rfl
            try simp only [List.setIfInBounds_toArray, List.set_cons_zero, List.set_cons_succ]
            refine oneE (i := 18) (by kernel_rfl) rfl (fun K hK => ?_)
            go_simp
            refine hK.out _ _ ?_ (fun hHeld18 => ?_)
            · exact fun h => absurd rfl h
            clear hK hHeld18
            try simp only [List.setIfInBounds_toArray, List.set_cons_zero, List.set_cons_succ]
            refine doneE (by kernel_rfl) ?_ _
            have belw : Below w.heap.size w w16 := hbw1.trans (bel16.mono hbw1.size)
            clear hB hB1 hc hA hr0
            go_wp2
            all_goals
              refine bodyPost_ret (v := .agg #[.int .i64 wd, .slice a16 (lo + 1 + (cs.length - lo)) c16]) (by simp [results, Tryz.results85, go_sem, *]) rfl (PutOut.of_below (us' := us.take lo ++ .slice a7 row.length c7 :: us.drop lo) (G' := G.take lo ++ g7 :: G.drop lo) ?_ (fun b hb h => ?_) (fun b hb h => ?_) ?_ hN)
              · rw [hPn.out]
                refine hBc.keepO (by simp) (fun b hvb => ?_) fun b hgb => ?_
                · have := (ownsRow_lt hown16 b hvb).1
                  exact (Below.heap_setCell _ _ _ _ (by show b ≠ w.heap.size + 1; omega)).trans ((Below.heap_setCell _ _ _ _ (by show b ≠ w.heap.size + 1; omega)).trans (Below.heap_setCell _ _ _ _ (by show b ≠ w.heap.size; omega)))
                · have : b < w.heap.size ∨ w.heap.size + 1 < b := (put_mem hgb).elim (fun h => .inl (hGl b h)) (fun h => .inr (by have := hO7.2.1 b h; omega))
                  exact (Below.heap_setCell _ _ _ _ (by show b ≠ w.heap.size + 1; omega)).trans ((Below.heap_setCell _ _ _ _ (by show b ≠ w.heap.size + 1; omega)).trans (Below.heap_setCell _ _ _ _ (by show b ≠ w.heap.size; omega)))
              · have := (ownsRow_lt hown16 b h).1
                omega
              · exact (put_mem h).elim id (fun h => absurd (hO7.2.1 b h) (by omega))
              · repeat (first | (with_reducible exact belw) | (with_reducible refine Below.setCell ?_ ?hh _; case hh => (simp; try omega)))
          · by_cases hcl : cv = lo
            · have hcl2 := hcl.symm
              clear hcl
              subst hcl2
              clear hcv
              go_wp2_with fail
              obtain ⟨i0, fi, f0, f1, f2⟩ := info_parts Tryz.infoCnt
              refine startE 18 (fun w' => w'.cell? ⟨w.heap.size, 1, none⟩ = some (.slice (some ⟨g, 0, none⟩) cs.length lo)) (by kernel_rfl) ?_ (fun hHeld => ?_)
              · (try dsimp only)
                exact B1
              refine tkE (i := 1) (d := 82) (v := ?_) rfl rfl ?_ ?_
              rotate_left
              · intro w' hSw; (try dsimp only at hSw); go_simp; try exact rfl
              try simp only [List.setIfInBounds_toArray, List.set_cons_zero, List.set_cons_succ]
              refine tkE (i := 2) (d := 83) (v := ?_) rfl rfl ?_ ?_
              rotate_left
              · intro w' hSw; (try dsimp only at hSw); go_simp; try exact rfl
              try simp only [List.setIfInBounds_toArray, List.set_cons_zero, List.set_cons_succ]
              refine tkE (i := 3) (d := 84) (v := ?_) rfl rfl ?_ ?_
              rotate_left
              · intro w' hSw; (try dsimp only at hSw); go_simp; try exact rfl
              try simp only [List.setIfInBounds_toArray, List.set_cons_zero, List.set_cons_succ]
              refine tkE (i := 4) (d := 85) (v := ?_) rfl rfl ?_ ?_
              rotate_left
              · intro w' hSw; (try dsimp only at hSw); go_simp; try exact rfl
              try simp only [List.setIfInBounds_toArray, List.set_cons_zero, List.set_cons_succ]
              refine tkE (i := 6) (d := 87) (v := ?_) rfl rfl ?_ ?_
              rotate_left
              · intro w' hSw; (try dsimp only at hSw); go_simp; try exact rfl
              try simp only [List.setIfInBounds_toArray, List.set_cons_zero, List.set_cons_succ]
              refine tkE (i := 8) (d := 89) (v := ?_) rfl rfl ?_ ?_
              rotate_left
              · intro w' hSw; (try dsimp only at hSw); go_simp; try exact rfl
              try simp only [List.setIfInBounds_toArray, List.set_cons_zero, List.set_cons_succ]
              refine tkE (i := 12) (d := 93) (v := ?_) rfl rfl ?_ ?_
              rotate_left
              · intro w' hSw; (try dsimp only at hSw); go_simp; try exact rfl
              try simp only [List.setIfInBounds_toArray, List.set_cons_zero, List.set_cons_succ]
              refine tkE (i := 13) (d := 94) (v := ?_) rfl rfl ?_ ?_
              rotate_left
              · intro w' hSw; (try dsimp only at hSw); go_simp; try exact rfl
              try simp only [List.setIfInBounds_toArray, List.set_cons_zero, List.set_cons_succ]
              refine tkE (i := 14) (d := 95) (v := ?_) rfl rfl ?_ ?_
              rotate_left
              · intro w' hSw; (try dsimp only at hSw); go_simp; try exact rfl
              try simp only [List.setIfInBounds_toArray, List.set_cons_zero, List.set_cons_succ]
              refine tkE (i := 15) (d := 96) (v := ?_) rfl rfl ?_ ?_
              rotate_left
              · intro w' hSw; (try dsimp only at hSw); go_simp; try exact rfl
              try simp only [List.setIfInBounds_toArray, List.set_cons_zero, List.set_cons_succ]
              refine oneE (i := 0) (by kernel_rfl) rfl (fun K hK => ?_)
              go_simp
              refine hK.out _ _ ?_ (fun hHeld0 => ?_)
              · intro _
                (try dsimp only)
                exact (cell_blk (Below.heap_alloc wr _ _ (by omega))).trans B1
              clear hK
              replace hHeld0 := hHeld0 (by decide)
              try simp only [List.setIfInBounds_toArray, List.set_cons_zero, List.set_cons_succ]
              refine oneE (i := 5) (by kernel_rfl) rfl (fun K hK => ?_)
              refine step_append_src _ (by rfl) _ _ _ (by rfl) wr.heap.size 112 i0 _ 2 32 Tryz.underlying69 fi f0 f1 f2 rfl (by omega) (.slice (some ⟨wr.heap.size, 0, none⟩) 0 0) 0 [] (by rfl) (own_none (w := wr) rfl (Nat.le_refl _) _ 2) (.slice (some ⟨g, 0, none⟩) lo lo) lo _ (by rfl) (hB1.src1 (bex) (by omega)) (cc_one fun u hu => hB1.one u (List.mem_of_mem_take hu)) (by simp only [maxLen]; omega) (by omega) (by simp) ?_
              intro v5 w5 hown5 hgrow5 hat5
              rw [List.nil_append, Nat.zero_add] at hown5
              have hz5 := hgrow5.size
              simp at hz5
              have bel5 : Below wr.heap.size wr w5 := Below.grown (show Below wr.heap.size wr _ from bex) hgrow5 (by simp) (fun b hb => by simp [Value.ownBlock] at hb; omega)
              refine hK.out _ _ ?_ (fun hHeld5 => ?_)
              · intro _
                (try dsimp only)
                exact ((bcell bel5).1 _ _ (by omega)).trans B1
              clear hK
              replace hHeld5 := hHeld5 (by decide)
              try simp only [List.setIfInBounds_toArray, List.set_cons_zero, List.set_cons_succ]
              refine oneE (i := 7) (by kernel_rfl) rfl (fun K hK => ?_)
              go_simp
              go_at_call 108
              refine Calls.mono (l02CopyRow_any (.slice ar row.length cr) row g0 _ (hr0.belowX (hbw1.trans (bel5.mono hbw1.size))) hrl) ?_
              rintro e w7 ⟨⟨u7, g7, rfl, hR7, hO7⟩, hb7⟩
              obtain ⟨a7, c7, rfl⟩ := hR7.shapeX
              have hz7 := hb7.size
              have bel7 : Below wr.heap.size wr w7 := bel5.trans (hb7.mono bel5.size)
              have hown7 := ownsRow_keep hown5 (fun b hb => hb7.block b (ownsRow_lt hown5 b hb).2)
              have hR7l := hR7.lt
              try go_wp2_with fail
              refine hK.out _ _ ?_ (fun hHeld7 => ?_)
              · intro _
                (try dsimp only)
                exact ((bcell bel7).1 _ _ (by omega)).trans B1
              clear hK
              replace hHeld7 := hHeld7 (by decide)
              try simp only [List.setIfInBounds_toArray, List.set_cons_zero, List.set_cons_succ]
              refine tkE (i := 9) (d := 90) (v := ?_) rfl rfl ?_ ?_
              rotate_left
              · intro w' hSw; (try dsimp only at hSw); go_simp; try exact rfl
              try simp only [List.setIfInBounds_toArray, List.set_cons_zero, List.set_cons_succ]
              refine oneE (i := 10) (by kernel_rfl) rfl (fun K hK => ?_)
              go_simp
              refine hK.out _ _ ?_ (fun hHeld10 => ?_)
              · intro _
                (try dsimp only)
                exact (cell_blk (Below.heap_alloc w7 _ _ (by omega))).trans (((bcell bel7).1 _ _ (by omega)).trans B1)
              clear hK
              replace hHeld10 := hHeld10 (by decide)
              try simp only [List.setIfInBounds_toArray, List.set_cons_zero, List.set_cons_succ]
              refine oneE (i := 11) (by kernel_rfl) rfl (fun K hK => ?_)
              refine step_append_src _ (by rfl) _ _ _ (by rfl) wr.heap.size 112 i0 _ 2 32 Tryz.underlying69 fi f0 f1 f2 rfl (by omega) v5 lo _ (by rfl) (ownsRow_keep hown7 fun b hb => Below.heap_alloc w7 _ _ (ownsRow_lt hown7 b hb).2) (.slice (some ⟨w7.heap.size, 0, none⟩) 1 1) 1 [.slice a7 row.length c7, .int .i64 n] (by rfl) ⟨by rfl, .inr ⟨_, _, rfl, World.news_of_block (cs := #[.slice a7 row.length c7, .int .i64 n]) (t := 112) (fr := (0, 0)) (heap_alloc_new w7 _)⟩⟩ (by simp [Value.oneCell']) (by simp only [maxLen]; omega) (by omega) (by simp; omega) ?_
              intro v11 w11 hown11 hgrow11 hat11
              have hz11 := hgrow11.size
              simp at hz11
              have bel11 : Below wr.heap.size wr w11 := Below.grown (bel7.alloc (by omega) _) hgrow11 (by simp; omega) (fun b hb => (ownsRow_lt hown7 b hb).1)
              refine hK.out _ _ ?_ (fun hHeld11 => ?_)
              · intro _
                (try dsimp only)
                exact ((bcell bel11).1 _ _ (by omega)).trans B1
              clear hK
              replace hHeld11 := hHeld11 (by decide)
              try simp only [List.setIfInBounds_toArray, List.set_cons_zero, List.set_cons_succ]
              refine oneE (i := 16) (by kernel_rfl) rfl (fun K hK => ?_)
              refine step_append_src _ (by rfl) _ _ _ (by rfl) wr.heap.size 112 i0 _ 2 32 Tryz.underlying69 fi f0 f1 f2 rfl (by omega) v11 (lo + 1) _ (by rfl) hown11 _ (cs.length - lo) _ (by rfl) (by have hsr := hB1.src3 (k := lo) bel11 (by omega); rw [if_pos rfl, Nat.sub_self] at hsr; exact hsr) (cc_one fun u hu => hB1.one u (List.mem_of_mem_drop hu)) (by simp only [maxLen]; omega) (by omega) (by omega) ?_
              intro v16 w16 hown16 hgrow16 hat16
              have hz16 := hgrow16.size
              obtain ⟨a16, c16, rfl⟩ := own_shapeX hown16
              have bel16 : Below wr.heap.size wr w16 := Below.grown bel11 hgrow16 (by omega) (fun b hb => (ownsRow_lt hown11 b hb).1)
              have hv11 : ∀ b, v11.ownBlock = some b → b ∉ g7 := by
                intro b hb hm
                have h1 := hO7.2.1 b hm
                have h2 := hR7l b hm
                rcases hat11 with h | h
                · have := (ownsRow_lt hown5 b (h.symm.trans hb)).2; omega
                · rw [h] at hb; have := Option.some.inj hb; simp at this; omega
              have hv16 : ∀ b, (Value.slice a16 (lo + 1 + (cs.length - lo)) c16).ownBlock = some b → b ∉ g7 := by
                intro b hb hm
                have h2 := hR7l b hm
                rcases hat16 with h | h
                · exact hv11 b (h.symm.trans hb) hm
                · rw [h] at hb; have := Option.some.inj hb; omega
              have hk16 : ∀ b, b < wr.heap.size ∨ b ∈ g7 → w16.heap[b]? = w7.heap[b]? := by
                intro b hb
                rcases hb with hb | hb
                · exact (bel16.block b hb).trans (bel7.block b hb).symm
                · have h1 := hO7.2.1 b hb
                  have h2 := hR7l b hb
                  refine (hgrow16.block b (by omega) (fun e => hv11 b e.symm hb)).trans ((hgrow11.block b (by simp; omega) (fun e => ?_)).trans (Below.heap_alloc w7 _ _ h2))
                  have := (ownsRow_lt hown5 b e.symm).2
                  omega
              have hBc := hB1.put (x := ⟨row, n⟩) (by omega) bel7 hR7 ⟨hO7.1, fun b hb => Nat.le_trans bel5.size (hO7.2.1 b hb), hO7.2.2⟩ hk16 (by omega) (k := lo) (by omega) (Nat.le_refl _) hv16 hown16
              have B016 := ((bcell bel16).1 w.heap.size 0 (by omega)).trans B0
              have B116 := ((bcell bel16).1 w.heap.size 1 (by omega)).trans B1
              have BF16 : ∀ q, w16.frozen? ⟨w.heap.size, q, none⟩ = false := fun q => ((bcell bel16).2 w.heap.size q (by omega)).trans (BF q)
              have T016 := ((bcell bel16).1 (w.heap.size + 1) 0 (by omega)).trans T0
              have T116 := ((bcell bel16).1 (w.heap.size + 1) 1 (by omega)).trans T1
              have TF16 : ∀ q, w16.frozen? ⟨w.heap.size + 1, q, none⟩ = false := fun q => ((bcell bel16).2 (w.heap.size + 1) q (by omega)).trans (TF q)
              refine hK.out _ _ ?_ (fun hHeld16 => ?_)
              · intro _
                (try dsimp only)
                exact B116
              clear hK
              replace hHeld16 := hHeld16 (by decide)
              try simp only [List.setIfInBounds_toArray, List.set_cons_zero, List.set_cons_succ]
              refine tkE (i := 17) (d := 98) (v := ?_) rfl rfl ?_ ?_
              rotate_left
              · intro w' hSw; (try dsimp only at hSw); go_simp; try exact rfl
              try simp only [List.setIfInBounds_toArray, List.set_cons_zero, List.set_cons_succ]
              refine oneE (i := 18) (by kernel_rfl) rfl (fun K hK => ?_)
              go_simp
              refine hK.out _ _ ?_ (fun hHeld18 => ?_)
              · exact fun h => absurd rfl h
              clear hK hHeld18
              try simp only [List.setIfInBounds_toArray, List.set_cons_zero, List.set_cons_succ]
              refine doneE (by kernel_rfl) ?_ _
              have belw : Below w.heap.size w w16 := hbw1.trans (bel16.mono hbw1.size)
              clear hB hB1 hc hA hr0
              go_wp2
              all_goals
                refine bodyPost_ret (v := .agg #[.int .i64 wd, .slice a16 (lo + 1 + (cs.length - lo)) c16]) (by simp [results, Tryz.results85, go_sem, *]) rfl (PutOut.of_below (us' := us.take lo ++ .slice a7 row.length c7 :: us.drop lo) (G' := G.take lo ++ g7 :: G.drop lo) ?_ (fun b hb h => ?_) (fun b hb h => ?_) ?_ hN)
                · rw [hPn.out]
                  refine hBc.keepO (by simp) (fun b hvb => ?_) fun b hgb => ?_
                  · have := (ownsRow_lt hown16 b hvb).1
                    exact (Below.heap_setCell _ _ _ _ (by show b ≠ w.heap.size + 1; omega)).trans ((Below.heap_setCell _ _ _ _ (by show b ≠ w.heap.size + 1; omega)).trans (Below.heap_setCell _ _ _ _ (by show b ≠ w.heap.size; omega)))
                  · have : b < w.heap.size ∨ w.heap.size + 1 < b := (put_mem hgb).elim (fun h => .inl (hGl b h)) (fun h => .inr (by have := hO7.2.1 b h; omega))
                    exact (Below.heap_setCell _ _ _ _ (by show b ≠ w.heap.size + 1; omega)).trans ((Below.heap_setCell _ _ _ _ (by show b ≠ w.heap.size + 1; omega)).trans (Below.heap_setCell _ _ _ _ (by show b ≠ w.heap.size; omega)))
                · have := (ownsRow_lt hown16 b h).1
                  omega
                · exact (put_mem h).elim id (fun h => absurd (hO7.2.1 b h) (by omega))
                · repeat (first | (with_reducible exact belw) | (with_reducible refine Below.setCell ?_ ?hh _; case hh => (simp; try omega)))
            · go_wp2_with fail
              obtain ⟨i0, fi, f0, f1, f2⟩ := info_parts Tryz.infoCnt
              refine startE 18 (fun w' => w'.cell? ⟨w.heap.size, 1, none⟩ = some (.slice (some ⟨g, 0, none⟩) cs.length cv)) (by kernel_rfl) ?_ (fun hHeld => ?_)
              · (try dsimp only)
                exact B1
              refine tkE (i := 1) (d := 82) (v := ?_) rfl rfl ?_ ?_
              rotate_left
              · intro w' hSw; (try dsimp only at hSw); go_simp; try exact rfl
              try simp only [List.setIfInBounds_toArray, List.set_cons_zero, List.set_cons_succ]
              refine tkE (i := 2) (d := 83) (v := ?_) rfl rfl ?_ ?_
              rotate_left
              · intro w' hSw; (try dsimp only at hSw); go_simp; try exact rfl
              try simp only [List.setIfInBounds_toArray, List.set_cons_zero, List.set_cons_succ]
              refine tkE (i := 3) (d := 84) (v := ?_) rfl rfl ?_ ?_
              rotate_left
              · intro w' hSw; (try dsimp only at hSw); go_simp; try exact rfl
              try simp only [List.setIfInBounds_toArray, List.set_cons_zero, List.set_cons_succ]
              refine tkE (i := 4) (d := 85) (v := ?_) rfl rfl ?_ ?_
              rotate_left
              · intro w' hSw; (try dsimp only at hSw); go_simp; try exact rfl
              try simp only [List.setIfInBounds_toArray, List.set_cons_zero, List.set_cons_succ]
              refine tkE (i := 6) (d := 87) (v := ?_) rfl rfl ?_ ?_
              rotate_left
              · intro w' hSw; (try dsimp only at hSw); go_simp; try exact rfl
              try simp only [List.setIfInBounds_toArray, List.set_cons_zero, List.set_cons_succ]
              refine tkE (i := 8) (d := 89) (v := ?_) rfl rfl ?_ ?_
              rotate_left
              · intro w' hSw; (try dsimp only at hSw); go_simp; try exact rfl
              try simp only [List.setIfInBounds_toArray, List.set_cons_zero, List.set_cons_succ]
              refine tkE (i := 12) (d := 93) (v := ?_) rfl rfl ?_ ?_
              rotate_left
              · intro w' hSw; (try dsimp only at hSw); go_simp; try exact rfl
              try simp only [List.setIfInBounds_toArray, List.set_cons_zero, List.set_cons_succ]
              refine tkE (i := 13) (d := 94) (v := ?_) rfl rfl ?_ ?_
              rotate_left
              · intro w' hSw; (try dsimp only at hSw); go_simp; try exact rfl
              try simp only [List.setIfInBounds_toArray, List.set_cons_zero, List.set_cons_succ]
              refine tkE (i := 14) (d := 95) (v := ?_) rfl rfl ?_ ?_
              rotate_left
              · intro w' hSw; (try dsimp only at hSw); go_simp; try exact rfl
              try simp only [List.setIfInBounds_toArray, List.set_cons_zero, List.set_cons_succ]
              refine tkE (i := 15) (d := 96) (v := ?_) rfl rfl ?_ ?_
              rotate_left
              · intro w' hSw; (try dsimp only at hSw); go_simp; try exact rfl
              try simp only [List.setIfInBounds_toArray, List.set_cons_zero, List.set_cons_succ]
              refine oneE (i := 0) (by kernel_rfl) rfl (fun K hK => ?_)
              go_simp
              refine hK.out _ _ ?_ (fun hHeld0 => ?_)
              · intro _
                (try dsimp only)
                exact (cell_blk (Below.heap_alloc wr _ _ (by omega))).trans B1
              clear hK
              replace hHeld0 := hHeld0 (by decide)
              try simp only [List.setIfInBounds_toArray, List.set_cons_zero, List.set_cons_succ]
              refine oneE (i := 5) (by kernel_rfl) rfl (fun K hK => ?_)
              refine step_append_src _ (by rfl) _ _ _ (by rfl) wr.heap.size 112 i0 _ 2 32 Tryz.underlying69 fi f0 f1 f2 rfl (by omega) (.slice (some ⟨wr.heap.size, 0, none⟩) 0 0) 0 [] (by rfl) (own_none (w := wr) rfl (Nat.le_refl _) _ 2) (.slice (some ⟨g, 0, none⟩) lo cv) lo _ (by rfl) (hB1.src1 (bex) (by omega)) (cc_one fun u hu => hB1.one u (List.mem_of_mem_take hu)) (by simp only [maxLen]; omega) (by omega) (by simp) ?_
              intro v5 w5 hown5 hgrow5 hat5
              rw [List.nil_append, Nat.zero_add] at hown5
              have hz5 := hgrow5.size
              simp at hz5
              have bel5 : Below wr.heap.size wr w5 := Below.grown (show Below wr.heap.size wr _ from bex) hgrow5 (by simp) (fun b hb => by simp [Value.ownBlock] at hb; omega)
              refine hK.out _ _ ?_ (fun hHeld5 => ?_)
              · intro _
                (try dsimp only)
                exact ((bcell bel5).1 _ _ (by omega)).trans B1
              clear hK
              replace hHeld5 := hHeld5 (by decide)
              try simp only [List.setIfInBounds_toArray, List.set_cons_zero, List.set_cons_succ]
              refine oneE (i := 7) (by kernel_rfl) rfl (fun K hK => ?_)
              go_simp
              go_at_call 108
              refine Calls.mono (l02CopyRow_any (.slice ar row.length cr) row g0 _ (hr0.belowX (hbw1.trans (bel5.mono hbw1.size))) hrl) ?_
              rintro e w7 ⟨⟨u7, g7, rfl, hR7, hO7⟩, hb7⟩
              obtain ⟨a7, c7, rfl⟩ := hR7.shapeX
              have hz7 := hb7.size
              have bel7 : Below wr.heap.size wr w7 := bel5.trans (hb7.mono bel5.size)
              have hown7 := ownsRow_keep hown5 (fun b hb => hb7.block b (ownsRow_lt hown5 b hb).2)
              have hR7l := hR7.lt
              try go_wp2_with fail
              refine hK.out _ _ ?_ (fun hHeld7 => ?_)
              · intro _
                (try dsimp only)
                exact ((bcell bel7).1 _ _ (by omega)).trans B1
              clear hK
              replace hHeld7 := hHeld7 (by decide)
              try simp only [List.setIfInBounds_toArray, List.set_cons_zero, List.set_cons_succ]
              refine tkE (i := 9) (d := 90) (v := ?_) rfl rfl ?_ ?_
              rotate_left
              · intro w' hSw; (try dsimp only at hSw); go_simp; try exact rfl
              try simp only [List.setIfInBounds_toArray, List.set_cons_zero, List.set_cons_succ]
              refine oneE (i := 10) (by kernel_rfl) rfl (fun K hK => ?_)
              go_simp
              refine hK.out _ _ ?_ (fun hHeld10 => ?_)
              · intro _
                (try dsimp only)
                exact (cell_blk (Below.heap_alloc w7 _ _ (by omega))).trans (((bcell bel7).1 _ _ (by omega)).trans B1)
              clear hK
              replace hHeld10 := hHeld10 (by decide)
              try simp only [List.setIfInBounds_toArray, List.set_cons_zero, List.set_cons_succ]
              refine oneE (i := 11) (by kernel_rfl) rfl (fun K hK => ?_)
              refine step_append_src _ (by rfl) _ _ _ (by rfl) wr.heap.size 112 i0 _ 2 32 Tryz.underlying69 fi f0 f1 f2 rfl (by omega) v5 lo _ (by rfl) (ownsRow_keep hown7 fun b hb => Below.heap_alloc w7 _ _ (ownsRow_lt hown7 b hb).2) (.slice (some ⟨w7.heap.size, 0, none⟩) 1 1) 1 [.slice a7 row.length c7, .int .i64 n] (by rfl) ⟨by rfl, .inr ⟨_, _, rfl, World.news_of_block (cs := #[.slice a7 row.length c7, .int .i64 n]) (t := 112) (fr := (0, 0)) (heap_alloc_new w7 _)⟩⟩ (by simp [Value.oneCell']) (by simp only [maxLen]; omega) (by omega) (by simp; omega) ?_
              intro v11 w11 hown11 hgrow11 hat11
              have hz11 := hgrow11.size
              simp at hz11
              have bel11 : Below wr.heap.size wr w11 := Below.grown (bel7.alloc (by omega) _) hgrow11 (by simp; omega) (fun b hb => (ownsRow_lt hown7 b hb).1)
              refine hK.out _ _ ?_ (fun hHeld11 => ?_)
              · intro _
                (try dsimp only)
                exact ((bcell bel11).1 _ _ (by omega)).trans B1
              clear hK
              replace hHeld11 := hHeld11 (by decide)
              try simp only [List.setIfInBounds_toArray, List.set_cons_zero, List.set_cons_succ]
              refine oneE (i := 16) (by kernel_rfl) rfl (fun K hK => ?_)
              refine step_append_src _ (by rfl) _ _ _ (by rfl) wr.heap.size 112 i0 _ 2 32 Tryz.underlying69 fi f0 f1 f2 rfl (by omega) v11 (lo + 1) _ (by rfl) hown11 _ (cs.length - lo) _ (by rfl) (by have hsr := hB1.src3 (k := lo) bel11 (by omega); rw [if_neg hcl] at hsr; exact hsr) (cc_one fun u hu => hB1.one u (List.mem_of_mem_drop hu)) (by simp only [maxLen]; omega) (by omega) (by omega) ?_
              intro v16 w16 hown16 hgrow16 hat16
              have hz16 := hgrow16.size
              obtain ⟨a16, c16, rfl⟩ := own_shapeX hown16
              have bel16 : Below wr.heap.size wr w16 := Below.grown bel11 hgrow16 (by omega) (fun b hb => (ownsRow_lt hown11 b hb).1)
              have hv11 : ∀ b, v11.ownBlock = some b → b ∉ g7 := by
                intro b hb hm
                have h1 := hO7.2.1 b hm
                have h2 := hR7l b hm
                rcases hat11 with h | h
                · have := (ownsRow_lt hown5 b (h.symm.trans hb)).2; omega
                · rw [h] at hb; have := Option.some.inj hb; simp at this; omega
              have hv16 : ∀ b, (Value.slice a16 (lo + 1 + (cs.length - lo)) c16).ownBlock = some b → b ∉ g7 := by
                intro b hb hm
                have h2 := hR7l b hm
                rcases hat16 with h | h
                · exact hv11 b (h.symm.trans hb) hm
                · rw [h] at hb; have := Option.some.inj hb; omega
              have hk16 : ∀ b, b < wr.heap.size ∨ b ∈ g7 → w16.heap[b]? = w7.heap[b]? := by
                intro b hb
                rcases hb with hb | hb
                · exact (bel16.block b hb).trans (bel7.block b hb).symm
                · have h1 := hO7.2.1 b hb
                  have h2 := hR7l b hb
                  refine (hgrow16.block b (by omega) (fun e => hv11 b e.symm hb)).trans ((hgrow11.block b (by simp; omega) (fun e => ?_)).trans (Below.heap_alloc w7 _ _ h2))
                  have := (ownsRow_lt hown5 b e.symm).2
                  omega
              have hBc := hB1.put (x := ⟨row, n⟩) (by omega) bel7 hR7 ⟨hO7.1, fun b hb => Nat.le_trans bel5.size (hO7.2.1 b hb), hO7.2.2⟩ hk16 (by omega) (k := lo) (by omega) (Nat.le_refl _) hv16 hown16
              have B016 := ((bcell bel16).1 w.heap.size 0 (by omega)).trans B0
              have B116 := ((bcell bel16).1 w.heap.size 1 (by omega)).trans B1
              have BF16 : ∀ q, w16.frozen? ⟨w.heap.size, q, none⟩ = false := fun q => ((bcell bel16).2 w.heap.size q (by omega)).trans (BF q)
              have T016 := ((bcell bel16).1 (w.heap.size + 1) 0 (by omega)).trans T0
              have T116 := ((bcell bel16).1 (w.heap.size + 1) 1 (by omega)).trans T1
              have TF16 : ∀ q, w16.frozen? ⟨w.heap.size + 1, q, none⟩ = false := fun q => ((bcell bel16).2 (w.heap.size + 1) q (by omega)).trans (TF q)
              refine hK.out _ _ ?_ (fun hHeld16 => ?_)
              · intro _
                (try dsimp only)
                exact B116
              clear hK
              replace hHeld16 := hHeld16 (by decide)
              try simp only [List.setIfInBounds_toArray, List.set_cons_zero, List.set_cons_succ]
              refine tkE (i := 17) (d := 98) (v := ?_) rfl rfl ?_ ?_
              rotate_left
              · intro w' hSw; (try dsimp only at hSw); go_simp; try exact rfl
              try simp only [List.setIfInBounds_toArray, List.set_cons_zero, List.set_cons_succ]
              refine oneE (i := 18) (by kernel_rfl) rfl (fun K hK => ?_)
              go_simp
              refine hK.out _ _ ?_ (fun hHeld18 => ?_)
              · exact fun h => absurd rfl h
              clear hK hHeld18
              try simp only [List.setIfInBounds_toArray, List.set_cons_zero, List.set_cons_succ]
              refine doneE (by kernel_rfl) ?_ _
              have belw : Below w.heap.size w w16 := hbw1.trans (bel16.mono hbw1.size)
              clear hB hB1 hc hA hr0
              go_wp2
              all_goals
                refine bodyPost_ret (v := .agg #[.int .i64 wd, .slice a16 (lo + 1 + (cs.length - lo)) c16]) (by simp [results, Tryz.results85, go_sem, *]) rfl (PutOut.of_below (us' := us.take lo ++ .slice a7 row.length c7 :: us.drop lo) (G' := G.take lo ++ g7 :: G.drop lo) ?_ (fun b hb h => ?_) (fun b hb h => ?_) ?_ hN)
                · rw [hPn.out]
                  refine hBc.keepO (by simp) (fun b hvb => ?_) fun b hgb => ?_
                  · have := (ownsRow_lt hown16 b hvb).1
                    exact (Below.heap_setCell _ _ _ _ (by show b ≠ w.heap.size + 1; omega)).trans ((Below.heap_setCell _ _ _ _ (by show b ≠ w.heap.size + 1; omega)).trans (Below.heap_setCell _ _ _ _ (by show b ≠ w.heap.size; omega)))
                  · have : b < w.heap.size ∨ w.heap.size + 1 < b := (put_mem hgb).elim (fun h => .inl (hGl b h)) (fun h => .inr (by have := hO7.2.1 b h; omega))
                    exact (Below.heap_setCell _ _ _ _ (by show b ≠ w.heap.size + 1; omega)).trans ((Below.heap_setCell _ _ _ _ (by show b ≠ w.heap.size + 1; omega)).trans (Below.heap_setCell _ _ _ _ (by show b ≠ w.heap.size; omega)))
                · have := (ownsRow_lt hown16 b h).1
                  omega
                · exact (put_mem h).elim id (fun h => absurd (hO7.2.1 b h) (by omega))
                · repeat (first | (with_reducible exact belw) | (with_reducible refine Below.setCell ?_ ?hh _; case hh => (simp; try omega)))
        · have hPn : Hid (P = cs) := by rw [if_neg hn] at hPi; exact hPi
          have hn0' : n = 0 := by omega
          subst hn0'
          clear hPi hlo hP hx
          go_wp2
          refine bodyPost_ret (v := .agg #[.int .i64 wd, .slice av cs.length cv]) (by simp [results, Tryz.results85, go_sem, *]) rfl (PutOut.of_below (us' := us) (G' := G) ?_ (fun _ _ h => h) (fun _ _ h => h) ?_ hN)
          · rw [hPn.out]
            exact hB.below (by repeat (first | (with_reducible exact hb) | (with_reducible exact hbw1) | (with_reducible refine Below.setCell ?_ ?hh _; case hh => (simp; try omega))))
          · repeat (first | (with_reducible exact hb) | (with_reducible exact hbw1) | (with_reducible refine Below.setCell ?_ ?hh _; case hh => (simp; try omega)))
      | some x =>
        obtain ⟨g, cap, u, gg, hv, _, _, hgN, hgl, hu, hgg, c0, c1, hR, gf⟩ := hB.cellsX hx
        injection hv with e1 _ e3
        subst e1 e3
        have hxl : lo < cs.length := (List.getElem?_eq_some_iff.1 hx).1
        have hll2 : decide ((lo : Int) < cs.length) = true := by simp; omega
        have hxI : (lo : Int) < cs.length := by omega
        have d0 := (hb.cell (p := ⟨g, _, none⟩) hgl).trans c0
        have d1 := (hb.cell (p := ⟨g, _, none⟩) hgl).trans c1
        have hgr : g < wr.heap.size := by omega
        by_cases hcmp : cmpRow x.r row = 0
        · have hPs : Hid (P = if n + x.n ≠ 0 then cs.set lo ⟨x.r, n + x.n⟩ else cs.take lo ++ cs.drop (lo + 1)) := by show P = _; rw [← hP.out]; unfold putC; rw [← hlo, hx]; dsimp only; rw [if_pos hcmp]
          clear hlo hP
          have hcb : (cmpRow x.r row == 0) = true := by simpa using hcmp
          have hxn := hc x (List.mem_of_getElem? hx)
          go_wp2_with fail
          refine Calls.mono (specRow_any u (.slice ar row.length cr) x.r row wr (hR.is.below hb) (hr0.is.below hb)) ?_
          rintro z w1 ⟨rfl, hb1⟩
          have hz1 := hb1.size
          have hbw1 : Below w.heap.size w w1 := hb.trans (hb1.mono hb.size)
          have B0 := ((bcell hb1).1 _ _ (show w.heap.size < wr.heap.size by omega)).trans b0
          have B1 := ((bcell hb1).1 _ _ (show w.heap.size < wr.heap.size by omega)).trans b1
          have BF : ∀ q, w1.frozen? ⟨w.heap.size, q, none⟩ = false := fun q => ((bcell hb1).2 _ q (show w.heap.size < wr.heap.size by omega)).trans (bf q)
          have T0 := ((bcell hb1).1 _ _ hz).trans t0
          have T1 := ((bcell hb1).1 _ _ hz).trans t1
          have TF : ∀ q, w1.frozen? ⟨w.heap.size + 1, q, none⟩ = false := fun q => ((bcell hb1).2 _ q hz).trans (tf q)
          have D1 := ((bcell hb1).1 _ _ hgr).trans d1
          have GF : ∀ q, w1.frozen? ⟨g, q, none⟩ = false := fun q => ((bcell hb1).2 _ q hgr).trans (((bcell hb).2 _ q hgl).trans (gf q))
          have hgr1 : g < w1.heap.size := by omega
          have hgb : g ≠ w.heap.size := by omega
          have hgt : g ≠ w.heap.size + 1 := by omega
          clear hb1 b0 b1 bf t0 t1 tf
          by_cases hm : n + x.n ≠ 0
          · have hPn : Hid (P = cs.set lo ⟨x.r, n + x.n⟩) := by have h := hPs.out; rw [if_pos hm] at h; exact h
            have hmb : (n + x.n != 0) = true := by simpa using hm
            have hwr : wrap64 (n + x.n) = n + x.n := by unfold wrap64; omega
            have hB1 := (hB.below hbw1).setN hx (n + x.n)
            have hGl := hB.lt
            clear hPs hx hB
            go_wp2
            refine bodyPost_ret (v := .agg #[.int .i64 wd, .slice (some ⟨g, 0, none⟩) cs.length cv]) (by simp [results, Tryz.results85, go_sem, *]) rfl ⟨_, us, G, rfl, ?_, fun _ _ h => h, fun _ _ h => h, ?_, ?_⟩
            · rw [hPn.out]
              refine hB1.keepO (by simp) (fun b hvb => ?_) fun b hgb => ?_
              · cases hvb
                exact (Below.heap_setCell _ _ _ _ (by show g ≠ w.heap.size + 1; omega)).trans (Below.heap_setCell _ _ _ _ (by show g ≠ w.heap.size + 1; omega))
              · have := hGl b hgb
                exact (Below.heap_setCell _ _ _ _ (by show b ≠ w.heap.size + 1; omega)).trans (Below.heap_setCell _ _ _ _ (by show b ≠ w.heap.size + 1; omega))
            · repeat (first | (with_reducible exact hbw1.mono hN) | (with_reducible refine Below.setCell ?_ ?hh _; case hh => (simp; try omega)))
            · exact grown_cell (grown_cell (grown_set hbw1 g _ _) (by simp) _) (by simp) _
          · have hPn : Hid (P = cs.take lo ++ cs.drop (lo + 1)) := by have h := hPs.out; rw [if_neg hm] at h; exact h
            have hmb : (n + x.n != 0) = false := by simpa using hm
            have hm0 : n + x.n = 0 := by omega
            have hwr : wrap64 (n + x.n) = n + x.n := by unfold wrap64; omega
            have hlc : lo ≤ cv := by omega
            have hwI : IntKind.i64.wrap ((lo : Int) + 1) = (lo : Int) + 1 := by rw [IntKind.wrap_i64]; omega
            have hI0 : (0 : Int) ≤ (lo : Int) + 1 := by omega
            have hI1 : (lo : Int) + 1 ≤ cs.length := by omega
            have hTn : ((lo : Int) + 1).toNat = lo + 1 := by omega
            have hB1 := hB.below hbw1
            have hGl := hB.lt
            clear hPs
            go_wp2_with fail
            obtain ⟨i0, fi, f0, f1, f2⟩ := info_parts Tryz.infoCnt
            refine startE 13 (fun w' => w'.cell? ⟨w.heap.size, 1, none⟩ = some (.slice (some ⟨g, 0, none⟩) cs.length cv)) (by kernel_rfl) ?_ (fun hHeld => ?_)
            · (try dsimp only)
              exact B1
            refine tkE (i := 1) (d := 66) (v := ?_) rfl rfl ?_ ?_
            rotate_left
            · intro w' hSw; (try dsimp only at hSw); go_simp; try exact rfl
            try simp only [List.setIfInBounds_toArray, List.set_cons_zero, List.set_cons_succ]
            refine tkE (i := 2) (d := 67) (v := ?_) rfl rfl ?_ ?_
            rotate_left
            · intro w' hSw; (try dsimp only at hSw); go_simp; try exact rfl
            try simp only [List.setIfInBounds_toArray, List.set_cons_zero, List.set_cons_succ]
            refine tkE (i := 3) (d := 68) (v := ?_) rfl rfl ?_ ?_
            rotate_left
            · intro w' hSw; (try dsimp only at hSw); go_simp; try exact rfl
            try simp only [List.setIfInBounds_toArray, List.set_cons_zero, List.set_cons_succ]
            refine tkE (i := 4) (d := 69) (v := ?_) rfl rfl ?_ ?_
            rotate_left
            · intro w' hSw; (try dsimp only at hSw); go_simp; try exact rfl
            try simp only [List.setIfInBounds_toArray, List.set_cons_zero, List.set_cons_succ]
            refine tkE (i := 6) (d := 71) (v := ?_) rfl rfl ?_ ?_
            rotate_left
            · intro w' hSw; (try dsimp only at hSw); go_simp; try exact rfl
            try simp only [List.setIfInBounds_toArray, List.set_cons_zero, List.set_cons_succ]
            refine tkE (i := 7) (d := 72) (v := ?_) rfl rfl ?_ ?_
            rotate_left
            · intro w' hSw; (try dsimp only at hSw); go_simp; try exact rfl
            try simp only [List.setIfInBounds_toArray, List.set_cons_zero, List.set_cons_succ]
            refine tkE (i := 8) (d := 73) (v := ?_) rfl rfl ?_ ?_
            rotate_left
            · intro w' hSw; (try dsimp only at hSw); go_simp; try exact rfl
            try simp only [List.setIfInBounds_toArray, List.set_cons_zero, List.set_cons_succ]
            refine tkE (i := 9) (d := 74) (v := ?_) rfl rfl ?_ ?_
            rotate_left
            · intro w' hSw; (try dsimp only at hSw); go_simp; try exact rfl
            try simp only [List.setIfInBounds_toArray, List.set_cons_zero, List.set_cons_succ]
            refine tkE (i := 10) (d := 75) (v := ?_) rfl rfl ?_ ?_
            rotate_left
            · intro w' hSw; (try dsimp only at hSw); go_simp; try exact rfl
            try simp only [List.setIfInBounds_toArray, List.set_cons_zero, List.set_cons_succ]
            refine oneE (i := 0) (by kernel_rfl) rfl (fun K hK => ?_)
            go_simp
            refine hK.out _ _ ?_ (fun hHeld0 => ?_)
            · intro _
              (try dsimp only)
              exact (cell_blk (Below.heap_alloc w1 _ _ (by omega))).trans B1
            clear hK
            replace hHeld0 := hHeld0 (by decide)
            try simp only [List.setIfInBounds_toArray, List.set_cons_zero, List.set_cons_succ]
            refine oneE (i := 5) (by kernel_rfl) rfl (fun K hK => ?_)
            refine step_append_src _ (by rfl) _ _ _ (by rfl) w1.heap.size 112 i0 _ 2 32 Tryz.underlying69 fi f0 f1 f2 rfl (by omega) (.slice (some ⟨w1.heap.size, 0, none⟩) 0 0) 0 [] (by rfl) (own_none (w := w1) rfl (Nat.le_refl _) _ 2) (.slice (some ⟨g, 0, none⟩) lo cv) lo _ (by rfl) (hB1.src1 (bex) (by omega)) (cc_one fun u hu => hB1.one u (List.mem_of_mem_take hu)) (by simp only [maxLen]; omega) (by omega) (by simp) ?_
            intro v5 w5 hown5 hgrow5 hat5
            rw [List.nil_append, Nat.zero_add] at hown5
            have hz5 := hgrow5.size
            simp at hz5
            have bel5 : Below w1.heap.size w1 w5 := Below.grown (show Below w1.heap.size w1 _ from bex) hgrow5 (by simp) (fun b hb => by simp [Value.ownBlock] at hb; omega)
            refine hK.out _ _ ?_ (fun hHeld5 => ?_)
            · intro _
              (try dsimp only)
              exact ((bcell bel5).1 _ _ (by omega)).trans B1
            clear hK
            replace hHeld5 := hHeld5 (by decide)
            try simp only [List.setIfInBounds_toArray, List.set_cons_zero, List.set_cons_succ]
            refine oneE (i := 11) (by kernel_rfl) rfl (fun K hK => ?_)
            refine step_append_src _ (by rfl) _ _ _ (by rfl) w1.heap.size 112 i0 _ 2 32 Tryz.underlying69 fi f0 f1 f2 rfl (by omega) v5 lo _ (by rfl) hown5 _ (cs.length - (lo + 1)) _ (by rfl) (hB1.src3 bel5 (by omega)) (cc_one fun u hu => hB1.one u (List.mem_of_mem_drop hu)) (by simp only [maxLen]; omega) (by omega) (by omega) ?_
            intro v11 w11 hown11 hgrow11 hat11
            have hz11 := hgrow11.size
            obtain ⟨a11, c11, rfl⟩ := own_shapeX hown11
            have bel11 : Below w1.heap.size w1 w11 := Below.grown bel5 hgrow11 (by omega) (fun b hb => (ownsRow_lt hown5 b hb).1)
            have hBc := hB1.cut (by omega) bel11 hxl (Nat.le_refl _) hown11
            have B011 := ((bcell bel11).1 w.heap.size 0 (by omega)).trans B0
            have B111 := ((bcell bel11).1 w.heap.size 1 (by omega)).trans B1
            have BF11 : ∀ q, w11.frozen? ⟨w.heap.size, q, none⟩ = false := fun q => ((bcell bel11).2 w.heap.size q (by omega)).trans (BF q)
            have T011 := ((bcell bel11).1 (w.heap.size + 1) 0 (by omega)).trans T0
            have T111 := ((bcell bel11).1 (w.heap.size + 1) 1 (by omega)).trans T1
            have TF11 : ∀ q, w11.frozen? ⟨w.heap.size + 1, q, none⟩ = false := fun q => ((bcell bel11).2 (w.heap.size + 1) q (by omega)).trans (TF q)
            refine hK.out _ _ ?_ (fun hHeld11 => ?_)
            · intro _
              (try dsimp only)
              exact B111
            clear hK
            replace hHeld11 := hHeld11 (by decide)
            try simp only [List.setIfInBounds_toArray, List.set_cons_zero, List.set_cons_succ]
            refine tkE (i := 12) (d := 77) (v := ?_) rfl rfl ?_ ?_
            rotate_left
            · intro w' hSw; (try dsimp only at hSw); go_simp; try exact rfl
            try simp only [List.setIfInBounds_toArray, List.set_cons_zero, List.set_cons_succ]
            refine oneE (i := 13) (by kernel_rfl) rfl (fun K hK => ?_)
            go_simp
            refine hK.out _ _ ?_ (fun hHeld13 => ?_)
            · exact fun h => absurd rfl h
            clear hK hHeld13
            try simp only [List.setIfInBounds_toArray, List.set_cons_zero, List.set_cons_succ]
            refine doneE (by kernel_rfl) ?_ _
            have belw : Below w.heap.size w w11 := hbw1.trans (bel11.mono hbw1.size)
            clear hB hB1 hc hA hr0
            go_wp2
            all_goals
              refine bodyPost_ret (v := .agg #[.int .i64 wd, .slice a11 (lo + (cs.length - (lo + 1))) c11]) (by simp [results, Tryz.results85, go_sem, *]) rfl (PutOut.of_below (us' := us.take lo ++ us.drop (lo + 1)) (G' := G.take lo ++ G.drop (lo + 1)) ?_ (fun b hb h => ?_) (fun b hb h => ?_) ?_ hN)
              · rw [hPn.out]
                refine hBc.keepO (by simp) (fun b hvb => ?_) fun b hgb => ?_
                · have := (ownsRow_lt hown11 b hvb).1
                  exact (Below.heap_setCell _ _ _ _ (by show b ≠ w.heap.size + 1; omega)).trans ((Below.heap_setCell _ _ _ _ (by show b ≠ w.heap.size + 1; omega)).trans (Below.heap_setCell _ _ _ _ (by show b ≠ w.heap.size; omega)))
                · have := hGl b (cut_mem hgb)
                  exact (Below.heap_setCell _ _ _ _ (by show b ≠ w.heap.size + 1; omega)).trans ((Below.heap_setCell _ _ _ _ (by show b ≠ w.heap.size + 1; omega)).trans (Below.heap_setCell _ _ _ _ (by show b ≠ w.heap.size; omega)))
              · have := (ownsRow_lt hown11 b h).1
                omega
              · exact cut_mem h
              · repeat (first | (with_reducible exact belw) | (with_reducible refine Below.setCell ?_ ?hh _; case hh => (simp; try omega)))
        · have hPi : Hid (P = if n ≠ 0 then cs.take lo ++ (⟨row, n⟩ : C2) :: cs.drop lo else cs) := by show P = _; rw [← hP.out]; unfold putC; rw [← hlo, hx]; dsimp only; rw [if_neg hcmp]
          clear hlo hP
          have hcb : (cmpRow x.r row == 0) = false := by simpa using hcmp
          by_cases hn : n ≠ 0
          · have hPn : Hid (P = cs.take lo ++ (⟨row, n⟩ : C2) :: cs.drop lo) := by have h := hPi.out; rw [if_pos hn] at h; exact h
            have hlc : lo ≤ cv := by omega
            have hI1 : (lo : Int) ≤ cs.length := by omega
            have hI2 : lo ≤ cs.length := by omega
            have hnb : (n != 0) = true := by simpa using hn
            have hGl := hB.lt
            clear hPi hx
            go_wp2_with fail
            refine Calls.mono (specRow_any u (.slice ar row.length cr) x.r row wr (hR.is.below hb) (hr0.is.below hb)) ?_
            rintro z w1 ⟨rfl, hb1⟩
            have hz1 := hb1.size
            have hbw1 : Below w.heap.size w w1 := hb.trans (hb1.mono hb.size)
            have B0 := ((bcell hb1).1 _ _ (show w.heap.size < wr.heap.size by omega)).trans b0
            have B1 := ((bcell hb1).1 _ _ (show w.heap.size < wr.heap.size by omega)).trans b1
            have BF : ∀ q, w1.frozen? ⟨w.heap.size, q, none⟩ = false := fun q => ((bcell hb1).2 _ q (show w.heap.size < wr.heap.size by omega)).trans (bf q)
            have T0 := ((bcell hb1).1 _ _ hz).trans t0
            have T1 := ((bcell hb1).1 _ _ hz).trans t1
            have TF : ∀ q, w1.frozen? ⟨w.heap.size + 1, q, none⟩ = false := fun q => ((bcell hb1).2 _ q hz).trans (tf q)
            have D1 := ((bcell hb1).1 _ _ hgr).trans d1
            have GF : ∀ q, w1.frozen? ⟨g, q, none⟩ = false := fun q => ((bcell hb1).2 _ q hgr).trans (((bcell hb).2 _ q hgl).trans (gf q))
            have hgr1 : g < w1.heap.size := by omega
            have hgb : g ≠ w.heap.size := by omega
            have hgt : g ≠ w.heap.size + 1 := by omega
            clear hb1 b0 b1 bf t0 t1 tf
            have hB1 := hB.below hbw1
            go_wp2_with fail
            obtain ⟨i0, fi, f0, f1, f2⟩ := info_parts Tryz.infoCnt
            refine startE 18 (fun w' => w'.cell? ⟨w.heap.size, 1, none⟩ = some (.slice (some ⟨g, 0, none⟩) cs.length cv)) (by kernel_rfl) ?_ (fun hHeld => ?_)
            · (try dsimp only)
              exact B1
            refine tkE (i := 1) (d := 82) (v := ?_) rfl rfl ?_ ?_
            rotate_left
            · intro w' hSw; (try dsimp only at hSw); go_simp; try exact rfl
            try simp only [List.setIfInBounds_toArray, List.set_cons_zero, List.set_cons_succ]
            refine tkE (i := 2) (d := 83) (v := ?_) rfl rfl ?_ ?_
            rotate_left
            · intro w' hSw; (try dsimp only at hSw); go_simp; try exact rfl
            try simp only [List.setIfInBounds_toArray, List.set_cons_zero, List.set_cons_succ]
            refine tkE (i := 3) (d := 84) (v := ?_) rfl rfl ?_ ?_
            rotate_left
            · intro w' hSw; (try dsimp only at hSw); go_simp; try exact rfl
            try simp only [List.setIfInBounds_toArray, List.set_cons_zero, List.set_cons_succ]
            refine tkE (i := 4) (d := 85) (v := ?_) rfl rfl ?_ ?_
            rotate_left
            · intro w' hSw; (try dsimp only at hSw); go_simp; try exact rfl
            try simp only [List.setIfInBounds_toArray, List.set_cons_zero, List.set_cons_succ]
            refine tkE (i := 6) (d := 87) (v := ?_) rfl rfl ?_ ?_
            rotate_left
            · intro w' hSw; (try dsimp only at hSw); go_simp; try exact rfl
            try simp only [List.setIfInBounds_toArray, List.set_cons_zero, List.set_cons_succ]
            refine tkE (i := 8) (d := 89) (v := ?_) rfl rfl ?_ ?_
            rotate_left
            · intro w' hSw; (try dsimp only at hSw); go_simp; try exact rfl
            try simp only [List.setIfInBounds_toArray, List.set_cons_zero, List.set_cons_succ]
            refine tkE (i := 12) (d := 93) (v := ?_) rfl rfl ?_ ?_
            rotate_left
            · intro w' hSw; (try dsimp only at hSw); go_simp; try exact rfl
            try simp only [List.setIfInBounds_toArray, List.set_cons_zero, List.set_cons_succ]
            refine tkE (i := 13) (d := 94) (v := ?_) rfl rfl ?_ ?_
            rotate_left
            · intro w' hSw; (try dsimp only at hSw); go_simp; try exact rfl
            try simp only [List.setIfInBounds_toArray, List.set_cons_zero, List.set_cons_succ]
            refine tkE (i := 14) (d := 95) (v := ?_) rfl rfl ?_ ?_
            rotate_left
            · intro w' hSw; (try dsimp only at hSw); go_simp; try exact rfl
            try simp only [List.setIfInBounds_toArray, List.set_cons_zero, List.set_cons_succ]
            refine tkE (i := 15) (d := 96) (v := ?_) rfl rfl ?_ ?_
            rotate_left
            · intro w' hSw; (try dsimp only at hSw); go_simp; try exact rfl
            try simp only [List.setIfInBounds_toArray, List.set_cons_zero, List.set_cons_succ]
            refine oneE (i := 0) (by kernel_rfl) rfl (fun K hK => ?_)
            go_simp
            refine hK.out _ _ ?_ (fun hHeld0 => ?_)
            · intro _
              (try dsimp only)
              exact (cell_blk (Below.heap_alloc w1 _ _ (by omega))).trans B1
            clear hK
            replace hHeld0 := hHeld0 (by decide)
            try simp only [List.setIfInBounds_toArray, List.set_cons_zero, List.set_cons_succ]
            refine oneE (i := 5) (by kernel_rfl) rfl (fun K hK => ?_)
            refine step_append_src _ (by rfl) _ _ _ (by rfl) w1.heap.size 112 i0 _ 2 32 Tryz.underlying69 fi f0 f1 f2 rfl (by omega) (.slice (some ⟨w1.heap.size, 0, none⟩) 0 0) 0 [] (by rfl) (own_none (w := w1) rfl (Nat.le_refl _) _ 2) (.slice (some ⟨g, 0, none⟩) lo cv) lo _ (by rfl) (hB1.src1 (bex) (by omega)) (cc_one fun u hu => hB1.one u (List.mem_of_mem_take hu)) (by simp only [maxLen]; omega) (by omega) (by simp) ?_
            intro v5 w5 hown5 hgrow5 hat5
            rw [List.nil_append, Nat.zero_add] at hown5
            have hz5 := hgrow5.size
            simp at hz5
            have bel5 : Below w1.heap.size w1 w5 := Below.grown (show Below w1.heap.size w1 _ from bex) hgrow5 (by simp) (fun b hb => by simp [Value.ownBlock] at hb; omega)
            refine hK.out _ _ ?_ (fun hHeld5 => ?_)
            · intro _
              (try dsimp only)
              exact ((bcell bel5).1 _ _ (by omega)).trans B1
            clear hK
            replace hHeld5 := hHeld5 (by decide)
            try simp only [List.setIfInBounds_toArray, List.set_cons_zero, List.set_cons_succ]
            refine oneE (i := 7) (by kernel_rfl) rfl (fun K hK => ?_)
            go_simp
            go_at_call 108
            refine Calls.mono (l02CopyRow_any (.slice ar row.length cr) row g0 _ (hr0.belowX (hbw1.trans (bel5.mono hbw1.size))) hrl) ?_
            rintro e w7 ⟨⟨u7, g7, rfl, hR7, hO7⟩, hb7⟩
            obtain ⟨a7, c7, rfl⟩ := hR7.shapeX
            have hz7 := hb7.size
            have bel7 : Below w1.heap.size w1 w7 := bel5.trans (hb7.mono bel5.size)
            have hown7 := ownsRow_keep hown5 (fun b hb => hb7.block b (ownsRow_lt hown5 b hb).2)
            have hR7l := hR7.lt
            try go_wp2_with fail
            refine hK.out _ _ ?_ (fun hHeld7 => ?_)
            · intro _
              (try dsimp only)
              exact ((bcell bel7).1 _ _ (by omega)).trans B1
            clear hK
            replace hHeld7 := hHeld7 (by decide)
            try simp only [List.setIfInBounds_toArray, List.set_cons_zero, List.set_cons_succ]
            refine tkE (i := 9) (d := 90) (v := ?_) rfl rfl ?_ ?_
            rotate_left
            · intro w' hSw; (try dsimp only at hSw); go_simp; try exact rfl
            try simp only [List.setIfInBounds_toArray, List.set_cons_zero, List.set_cons_succ]
            refine oneE (i := 10) (by kernel_rfl) rfl (fun K hK => ?_)
            go_simp
            refine hK.out _ _ ?_ (fun hHeld10 => ?_)
            · intro _
              (try dsimp only)
              exact (cell_blk (Below.heap_alloc w7 _ _ (by omega))).trans (((bcell bel7).1 _ _ (by omega)).trans B1)
            clear hK
            replace hHeld10 := hHeld10 (by decide)
            try simp only [List.setIfInBounds_toArray, List.set_cons_zero, List.set_cons_succ]
            refine oneE (i := 11) (by kernel_rfl) rfl (fun K hK => ?_)
            refine step_append_src _ (by rfl) _ _ _ (by rfl) w1.heap.size 112 i0 _ 2 32 Tryz.underlying69 fi f0 f1 f2 rfl (by omega) v5 lo _ (by rfl) (ownsRow_keep hown7 fun b hb => Below.heap_alloc w7 _ _ (ownsRow_lt hown7 b hb).2) (.slice (some ⟨w7.heap.size, 0, none⟩) 1 1) 1 [.slice a7 row.length c7, .int .i64 n] (by rfl) ⟨by rfl, .inr ⟨_, _, rfl, World.news_of_block (cs := #[.slice a7 row.length c7, .int .i64 n]) (t := 112) (fr := (0, 0)) (heap_alloc_new w7 _)⟩⟩ (by simp [Value.oneCell']) (by simp only [maxLen]; omega) (by omega) (by simp; omega) ?_
            intro v11 w11 hown11 hgrow11 hat11
            have hz11 := hgrow11.size
            simp at hz11
            have bel11 : Below w1.heap.size w1 w11 := Below.grown (bel7.alloc (by omega) _) hgrow11 (by simp; omega) (fun b hb => (ownsRow_lt hown7 b hb).1)
            refine hK.out _ _ ?_ (fun hHeld11 => ?_)
            · intro _
              (try dsimp only)
              exact ((bcell bel11).1 _ _ (by omega)).trans B1
            clear hK
            replace hHeld11 := hHeld11 (by decide)
            try simp only [List.setIfInBounds_toArray, List.set_cons_zero, List.set_cons_succ]
            refine oneE (i := 16) (by kernel_rfl) rfl (fun K hK => ?_)
            refine step_append_src _ (by rfl) _ _ _ (by rfl) w1.heap.size 112 i0 _ 2 32 Tryz.underlying69 fi f0 f1 f2 rfl (by omega) v11 (lo + 1) _ (by rfl) hown11 _ (cs.length - lo) _ (by rfl) (by have hsr := hB1.src3 (k := lo) bel11 (by omega); rw [if_neg (by omega)] at hsr; exact hsr) (cc_one fun u hu => hB1.one u (List.mem_of_mem_drop hu)) (by simp only [maxLen]; omega) (by omega) (by omega) ?_
            intro v16 w16 hown16 hgrow16 hat16
            have hz16 := hgrow16.size
            obtain ⟨a16, c16, rfl⟩ := own_shapeX hown16
            have bel16 : Below w1.heap.size w1 w16 := Below.grown bel11 hgrow16 (by omega) (fun b hb => (ownsRow_lt hown11 b hb).1)
            have hv11 : ∀ b, v11.ownBlock = some b → b ∉ g7 := by
              intro b hb hm
              have h1 := hO7.2.1 b hm
              have h2 := hR7l b hm
              rcases hat11 with h | h
              · have := (ownsRow_lt hown5 b (h.symm.trans hb)).2; omega
              · rw [h] at hb; have := Option.some.inj hb; simp at this; omega
            have hv16 : ∀ b, (Value.slice a16 (lo + 1 + (cs.length - lo)) c16).ownBlock = some b → b ∉ g7 := by
              intro b hb hm
              have h2 := hR7l b hm
              rcases hat16 with h | h
              · exact hv11 b (h.symm.trans hb) hm
              · rw [h] at hb; have := Option.some.inj hb; omega
            have hk16 : ∀ b, b < w1.heap.size ∨ b ∈ g7 → w16.heap[b]? = w7.heap[b]? := by
              intro b hb
              rcases hb with hb | hb
              · exact (bel16.block b hb).trans (bel7.block b hb).symm
              · have h1 := hO7.2.1 b hb
                have h2 := hR7l b hb
                refine (hgrow16.block b (by omega) (fun e => hv11 b e.symm hb)).trans ((hgrow11.block b (by simp; omega) (fun e => ?_)).trans (Below.heap_alloc w7 _ _ h2))
                have := (ownsRow_lt hown5 b e.symm).2
                omega
            have hBc := hB1.put (x := ⟨row, n⟩) (by omega) bel7 hR7 ⟨hO7.1, fun b hb => Nat.le_trans bel5.size (hO7.2.1 b hb), hO7.2.2⟩ hk16 (by omega) (k := lo) (by omega) (Nat.le_refl _) hv16 hown16
            have B016 := ((bcell bel16).1 w.heap.size 0 (by omega)).trans B0
            have B116 := ((bcell bel16).1 w.heap.size 1 (by omega)).trans B1
            have BF16 : ∀ q, w16.frozen? ⟨w.heap.size, q, none⟩ = false := fun q => ((bcell bel16).2 w.heap.size q (by omega)).trans (BF q)
            have T016 := ((bcell bel16).1 (w.heap.size + 1) 0 (by omega)).trans T0
            have T116 := ((bcell bel16).1 (w.heap.size + 1) 1 (by omega)).trans T1
            have TF16 : ∀ q, w16.frozen? ⟨w.heap.size + 1, q, none⟩ = false := fun q => ((bcell bel16).2 (w.heap.size + 1) q (by omega)).trans (TF q)
            refine hK.out _ _ ?_ (fun hHeld16 => ?_)
            · intro _
              (try dsimp only)
              exact B116
            clear hK
            replace hHeld16 := hHeld16 (by decide)
            try simp only [List.setIfInBounds_toArray, List.set_cons_zero, List.set_cons_succ]
            refine tkE (i := 17) (d := 98) (v := ?_) rfl rfl ?_ ?_
            rotate_left
            · intro w' hSw; (try dsimp only at hSw); go_simp; try exact rfl
            try simp only [List.setIfInBounds_toArray, List.set_cons_zero, List.set_cons_succ]
            refine oneE (i := 18) (by kernel_rfl) rfl (fun K hK => ?_)
            go_simp
            refine hK.out _ _ ?_ (fun hHeld18 => ?_)
            · exact fun h => absurd rfl h
            clear hK hHeld18
            try simp only [List.setIfInBounds_toArray, List.set_cons_zero, List.set_cons_succ]
            refine doneE (by kernel_rfl) ?_ _
            have belw : Below w.heap.size w w16 := hbw1.trans (bel16.mono hbw1.size)
            clear hB hB1 hc hA hr0
            go_wp2
            all_goals
              refine bodyPost_ret (v := .agg #[.int .i64 wd, .slice a16 (lo + 1 + (cs.length - lo)) c16]) (by simp [results, Tryz.results85, go_sem, *]) rfl (PutOut.of_below (us' := us.take lo ++ .slice a7 row.length c7 :: us.drop lo) (G' := G.take lo ++ g7 :: G.drop lo) ?_ (fun b hb h => ?_) (fun b hb h => ?_) ?_ hN)
              · rw [hPn.out]
                refine hBc.keepO (by simp) (fun b hvb => ?_) fun b hgb => ?_
                · have := (ownsRow_lt hown16 b hvb).1
                  exact (Below.heap_setCell _ _ _ _ (by show b ≠ w.heap.size + 1; omega)).trans ((Below.heap_setCell _ _ _ _ (by show b ≠ w.heap.size + 1; omega)).trans (Below.heap_setCell _ _ _ _ (by show b ≠ w.heap.size; omega)))
                · have : b < w.heap.size ∨ w.heap.size + 1 < b := (put_mem hgb).elim (fun h => .inl (hGl b h)) (fun h => .inr (by have := hO7.2.1 b h; omega))
                  exact (Below.heap_setCell _ _ _ _ (by show b ≠ w.heap.size + 1; omega)).trans ((Below.heap_setCell _ _ _ _ (by show b ≠ w.heap.size + 1; omega)).trans (Below.heap_setCell _ _ _ _ (by show b ≠ w.heap.size; omega)))
              · have := (ownsRow_lt hown16 b h).1
                omega
              · exact (put_mem h).elim id (fun h => absurd (hO7.2.1 b h) (by omega))
              · repeat (first | (with_reducible exact belw) | (with_reducible refine Below.setCell ?_ ?hh _; case hh => (simp; try omega)))
          · have hPn : Hid (P = cs) := by have h := hPi.out; rw [if_neg hn] at h; exact h
            have hn0' : n = 0 := by omega
            subst hn0'
            clear hPi hx
            go_wp2_with fail
            refine Calls.mono (specRow_any u (.slice ar row.length cr) x.r row wr (hR.is.below hb) (hr0.is.below hb)) ?_
            rintro z w1 ⟨rfl, hb1⟩
            have hz1 := hb1.size
            have hbw1 : Below w.heap.size w w1 := hb.trans (hb1.mono hb.size)
            have B0 := ((bcell hb1).1 _ _ (show w.heap.size < wr.heap.size by omega)).trans b0
            have B1 := ((bcell hb1).1 _ _ (show w.heap.size < wr.heap.size by omega)).trans b1
            have BF : ∀ q, w1.frozen? ⟨w.heap.size, q, none⟩ = false := fun q => ((bcell hb1).2 _ q (show w.heap.size < wr.heap.size by omega)).trans (bf q)
            have T0 := ((bcell hb1).1 _ _ hz).trans t0
            have T1 := ((bcell hb1).1 _ _ hz).trans t1
            have TF : ∀ q, w1.frozen? ⟨w.heap.size + 1, q, none⟩ = false := fun q => ((bcell hb1).2 _ q hz).trans (tf q)
            have D1 := ((bcell hb1).1 _ _ hgr).trans d1
            have GF : ∀ q, w1.frozen? ⟨g, q, none⟩ = false := fun q => ((bcell hb1).2 _ q hgr).trans (((bcell hb).2 _ q hgl).trans (gf q))
            have hgr1 : g < w1.heap.size := by omega
            have hgb : g ≠ w.heap.size := by omega
            have hgt : g ≠ w.heap.size + 1 := by omega
            clear hb1 b0 b1 bf t0 t1 tf
            go_wp2
            refine bodyPost_ret (v := .agg #[.int .i64 wd, .slice (some ⟨g, 0, none⟩) cs.length cv]) (by simp [results, Tryz.results85, go_sem, *]) rfl (PutOut.of_below (us' := us) (G' := G) ?_ (fun _ _ h => h) (fun _ _ h => h) ?_ hN)
            · rw [hPn.out]
              exact hB.below (by repeat (first | (with_reducible exact hbw1) | (with_reducible refine Below.setCell ?_ ?hh _; case hh => (simp; try omega))))
            · repeat (first | (with_reducible exact hbw1) | (with_reducible refine Below.setCell ?_ ?hh _; case hh => (simp; try omega)))
end Go.Proofs.YtbmoimfimeiglaaGreat
