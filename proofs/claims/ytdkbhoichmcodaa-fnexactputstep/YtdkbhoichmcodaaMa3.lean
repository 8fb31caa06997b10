/- Own texts, joined: contracts that the law's proof goes by. -/
import Derived.Test.YtdkbhoichmcodaaMa2
import Derived.Test.YtdkbhoichmcodaaMa1
import Derived.Handy
import Derived.Deep.RegionHeld3
import Derived.Deep.OwnRows
/- Own text. A bag that grows by append: its rows' heads in a block of the call's own, each row in one of its own. -/
namespace Go.Proofs.Ytdkbhoichmcodaa
open Go.RowKit Go.Deep Go.ChangeShapes Go.WideShapes
set_option linter.unusedVariables false
/-- the cells of counted rows' heads; us: the rows' slices. -/
def cc (us : List Value) (cs : List C2) : List Value := (us.zip cs).flatMap fun p => [p.1, .int .i64 p.2.n]
theorem cc_len {us : List Value} {cs : List C2} (h : us.length = cs.length) : (cc us cs).length = cs.length * 2 := by
  unfold cc
  induction us generalizing cs with
  | nil => cases cs with | nil => rfl | cons => simp at h
  | cons u us ih =>
    cases cs with
    | nil => simp at h
    | cons c cs =>
      have := ih (cs := cs) (by simpa using h)
      rw [List.zip_cons_cons, List.flatMap_cons, List.length_append, this]
      simp
      omega
theorem cc_push {us : List Value} {cs : List C2} (h : us.length = cs.length) (u : Value) (x : C2) : cc (us ++ [u]) (cs ++ [x]) = cc us cs ++ [u, .int .i64 x.n] := by
  unfold cc
  rw [List.zip_append h, List.flatMap_append]
  simp
theorem cc_at {us : List Value} {cs : List C2} (h : us.length = cs.length) : ∀ {i : Nat} {u : Value} {x : C2}, us[i]? = some u → cs[i]? = some x → (cc us cs)[i * 2]? = some u ∧ (cc us cs)[i * 2 + 1]? = some (.int .i64 x.n) := by
  induction us generalizing cs with
  | nil => intro i u x hu; simp at hu
  | cons v us ih =>
    cases cs with
    | nil => simp at h
    | cons c cs =>
      intro i u x hu hx
      have e : cc (v :: us) (c :: cs) = v :: .int .i64 c.n :: cc us cs := by unfold cc; rw [List.zip_cons_cons, List.flatMap_cons]; rfl
      rw [e]
      cases i with
      | zero => simp at hu hx; subst hu hx; simp
      | succ i =>
        have := ih (cs := cs) (by simpa using h) (i := i) (u := u) (x := x) (by simpa using hu) (by simpa using hx)
        rw [show (i + 1) * 2 = i * 2 + 1 + 1 from by omega]
        simpa using this
/-- the slice value v has the counted rows cs, in memory of the call's own from N on. -/
structure BagOwn (w : World) (N : Nat) (v : Value) (cs : List C2) (us : List Value) (G : List (List Nat)) : Prop where
  own : w.ownsRow N 131 2 v cs.length (cc us cs)
  ul : us.length = cs.length
  gl : G.length = cs.length
  row : ∀ (i : Nat) (x : C2) (u : Value) (g : List Nat), cs[i]? = some x → us[i]? = some u → G[i]? = some g → RowF w u x.r g
  free : Own w N G.flatten
  out : ∀ b, v.ownBlock = some b → b ∉ G.flatten
theorem BagOwn.nil (w : World) (N : Nat) : BagOwn w N (.slice none 0 0) [] [] [] :=
  ⟨⟨rfl, .inl ⟨rfl, rfl⟩⟩, rfl, rfl, fun i x u g hx => by simp at hx, by simp [Own, Free], fun b _ => by simp⟩
theorem ownsRow_lt {w : World} {N e n s : Nat} {v : Value} {xs : List Value} (h : w.ownsRow N e s v n xs) : ∀ b, v.ownBlock = some b → N ≤ b ∧ b < w.heap.size := by
  intro b hb
  rcases h.2 with ⟨rfl, _⟩ | ⟨g, cap, cur, rfl, hg, hc, _⟩
  · simp [Value.ownBlock] at hb
  · simp [Value.ownBlock] at hb
    subst hb
    refine ⟨hg, ?_⟩
    rcases Nat.lt_or_ge g w.heap.size with h' | h'
    · exact h'
    · simp [Array.getElem?_eq_none h'] at hc
theorem ownsRow_keep {w w' : World} {N e n s : Nat} {v : Value} {xs : List Value} (h : w.ownsRow N e s v n xs) (hb : ∀ b, v.ownBlock = some b → w'.heap[b]? = w.heap[b]?) : w'.ownsRow N e s v n xs := by
  refine ⟨h.1, ?_⟩
  rcases h.2 with hn | ⟨g, cap, cur, rfl, hg, hc, rest⟩
  · exact .inl hn
  · exact .inr ⟨g, cap, cur, rfl, hg, (hb g rfl).trans hc, rest⟩
theorem BagOwn.lt {w : World} {N : Nat} {v : Value} {cs : List C2} {us : List Value} {G : List (List Nat)} (h : BagOwn w N v cs us G) : ∀ b ∈ G.flatten, b < w.heap.size := by
  intro b hb
  obtain ⟨g, hg, hbg⟩ := List.mem_flatten.1 hb
  obtain ⟨i, hi, rfl⟩ := List.mem_iff_getElem.1 hg
  have h1 := h.gl
  have h2 := h.ul
  have hi1 : i < cs.length := by omega
  have hi2 : i < us.length := by omega
  exact (h.row i cs[i] us[i] G[i] (by simp) (by simp) (by simp)).lt b hbg
theorem BagOwn.keep {w w' : World} {N : Nat} {v : Value} {cs : List C2} {us : List Value} {G : List (List Nat)} (h : BagOwn w N v cs us G) (hs : w.heap.size ≤ w'.heap.size) (hb : ∀ b, N ≤ b → b < w.heap.size → w'.heap[b]? = w.heap[b]?) : BagOwn w' N v cs us G := by
  have hk : ∀ b ∈ G.flatten, w'.heap[b]? = w.heap[b]? := fun b hbG => hb b (h.free.2.1 b hbG) (h.lt b hbG)
  refine ⟨ownsRow_keep h.own fun b hv => hb b (ownsRow_lt h.own b hv).1 (ownsRow_lt h.own b hv).2, h.ul, h.gl, fun i x u g hx hu hg => (h.row i x u g hx hu hg).keep hs fun b hbg => hk b (List.mem_flatten.2 ⟨g, List.mem_of_getElem? hg, hbg⟩), h.free.keep hk, h.out⟩
theorem BagOwn.below {w w' : World} {N : Nat} {v : Value} {cs : List C2} {us : List Value} {G : List (List Nat)} (h : BagOwn w N v cs us G) (hb : Below w.heap.size w w') : BagOwn w' N v cs us G := h.keep hb.size fun b _ hlt => hb.block b hlt
theorem BagOwn.push {w w' : World} {N : Nat} {v v' u : Value} {cs : List C2} {us : List Value} {G : List (List Nat)} {x : C2} {g : List Nat} (h : BagOwn w N v cs us G) (hR : RowF w u x.r g) (hO : Own w N g) (hd1 : ∀ b ∈ G.flatten, b ∉ g) (hd2 : ∀ b, v.ownBlock = some b → b ∉ g)
    (ho : w'.ownsRow N 131 2 v' (cs.length + 1) (cc us cs ++ [u, .int .i64 x.n])) (hg : w.grownBy w' v.ownBlock) (hat : ∀ b, v'.ownBlock = some b → v.ownBlock = some b ∨ w.heap.size ≤ b) :
    BagOwn w' N v' (cs ++ [x]) (us ++ [u]) (G ++ [g]) := by
  have hG := h.lt
  have hm : ∀ b ∈ (G ++ [g]).flatten, b ∈ G.flatten ∨ b ∈ g := by intro b hb; simpa using hb
  have hlt : ∀ b ∈ (G ++ [g]).flatten, b < w.heap.size := fun b hb => (hm b hb).elim (hG b) (hR.lt b)
  have hne : ∀ b ∈ (G ++ [g]).flatten, some b ≠ v.ownBlock := fun b hb e => (hm b hb).elim (h.out b e.symm) (hd2 b e.symm)
  have hk : ∀ b ∈ (G ++ [g]).flatten, w'.heap[b]? = w.heap[b]? := fun b hb => hg.block b (hlt b hb) (hne b hb)
  refine ⟨?_, by simp [h.ul], by simp [h.gl], fun i y z q hy hz hq => ?_, ?_, fun b hb => ?_⟩
  · rw [cc_push h.ul]; simpa using ho
  · by_cases hi : i < cs.length
    · rw [List.getElem?_append_left hi] at hy
      rw [List.getElem?_append_left (by rw [h.ul]; exact hi)] at hz
      rw [List.getElem?_append_left (by rw [h.gl]; exact hi)] at hq
      exact (h.row i y z q hy hz hq).keep hg.size fun b hb => hk b (by simp; exact .inl ⟨q, List.mem_of_getElem? hq, hb⟩)
    · have hl : i < (cs ++ [x]).length := (List.getElem?_eq_some_iff.1 hy).1
      obtain rfl : i = cs.length := by simp at hl; omega
      rw [List.getElem?_append_right (Nat.le_refl _)] at hy
      rw [List.getElem?_append_right (by rw [h.ul]; exact Nat.le_refl _)] at hz
      rw [List.getElem?_append_right (by rw [h.gl]; exact Nat.le_refl _)] at hq
      simp [h.ul, h.gl] at hy hz hq
      subst hy hz hq
      exact hR.keep hg.size fun b hb => hk b (by simp; exact .inr hb)
  · refine Own.keep (w := w) ⟨?_, fun b hb => (hm b hb).elim (h.free.2.1 b) (hO.2.1 b), fun b hb => (hm b hb).elim (h.free.2.2 b) (hO.2.2 b)⟩ hk
    rw [List.flatten_append, List.nodup_append]
    refine ⟨h.free.1, by simpa using hO.1, fun a ha b hb => ?_⟩
    rintro rfl
    exact hd1 a ha (by simpa using hb)
  · intro hx
    rcases hat b hb with e | e
    · exact hne b hx e.symm
    · have := hlt b hx; omega
theorem BagOwn.weak {w : World} {N M : Nat} {v : Value} {cs : List C2} {us : List Value} {G : List (List Nat)} (h : BagOwn w N v cs us G) (hM : M ≤ N) : BagOwn w M v cs us G := by
  refine ⟨⟨h.own.1, ?_⟩, h.ul, h.gl, h.row, ⟨h.free.1, fun b hb => Nat.le_trans hM (h.free.2.1 b hb), h.free.2.2⟩, h.out⟩
  rcases h.own.2 with hn | ⟨g, cap, cur, hv, hg, rest⟩
  · exact .inl hn
  · exact .inr ⟨g, cap, cur, hv, Nat.le_trans hM hg, rest⟩
theorem BagOwn.shape {w : World} {N : Nat} {v : Value} {cs : List C2} {us : List Value} {G : List (List Nat)} (h : BagOwn w N v cs us G) : ∃ a c, v = .slice a cs.length c := by
  rcases h.own.2 with ⟨rfl, h0⟩ | ⟨g, cap, cur, hv, _⟩
  · exact ⟨none, 0, by rw [h0]⟩
  · exact ⟨_, cap, hv⟩
theorem BagOwn.rowsF {w : World} {N : Nat} {v : Value} {cs : List C2} {us : List Value} {G : List (List Nat)} (h : BagOwn w N v cs us G) : ∃ F, RowsF w v cs F ∧ Own w N F := by
  have hlt := ownsRow_lt h.own
  have hGl := h.lt
  by_cases hne : cs = []
  · refine ⟨[], ?_, by simp [Own, Free]⟩
    have hG : G = [] := List.length_eq_zero_iff.1 (by rw [h.gl, hne]; rfl)
    subst hne
    rcases h.own.2 with ⟨rfl, _⟩ | ⟨g, cap, cur, rfl, _, _, hn, hm, _⟩
    · exact ⟨none, 0, G, rfl, Nat.le_refl _, by simp, fun _ => rfl, h.gl, fun _ => rfl, fun x => absurd rfl x⟩
    · exact ⟨_, cap, G, rfl, hn, hm, (fun x => by cases x), h.gl, fun _ => rfl, fun x => absurd rfl x⟩
  have hp : 0 < cs.length := List.length_pos_iff.2 hne
  obtain ⟨hl, ho⟩ := h.own
  rcases ho with ⟨_, h0⟩ | ⟨g, cap, cur, rfl, hg, hc, hn, hm, hs, ht⟩
  · omega
  have hgo : g ∉ G.flatten := h.out g rfl
  refine ⟨g :: G.flatten, ⟨_, cap, G, rfl, hn, hm, (fun x => by cases x), h.gl, fun x => absurd x hne, fun _ => ⟨g, 0, rfl, (hlt g rfl).2, rfl, fun i x q hx hq => ?_⟩⟩, List.nodup_cons.2 ⟨hgo, h.free.1⟩, fun b hb => ?_, fun b hb o => ?_⟩
  · have hi : i < cs.length := (List.getElem?_eq_some_iff.1 hx).1
    have hiu : i < us.length := by rw [h.ul]; exact hi
    obtain ⟨e0, e1⟩ := cc_at h.ul (i := i) (u := us[i]) (x := x) (by simp) hx
    have get : ∀ j u, j < cs.length * 2 → (cc us cs)[j]? = some u → w.cell? ⟨g, j, none⟩ = some u := by
      intro j u hj hu
      simp only [World.cell?, hc]
      rw [← ht, List.getElem?_take, if_pos hj, Array.getElem?_toList] at hu
      simpa using hu
    exact ⟨us[i], by rw [Nat.zero_add]; exact get _ _ (by omega) e0, h.row i x us[i] q hx (by simp) hq, by rw [Nat.zero_add]; exact get _ _ (by omega) e1⟩
  · rcases List.mem_cons.1 hb with rfl | hb
    · exact hg
    · exact h.free.2.1 b hb
  · rcases List.mem_cons.1 hb with rfl | hb
    · simp [World.frozen?, hc]
    · exact h.free.2.2 b hb o
end Go.Proofs.Ytdkbhoichmcodaa
/- Own text. Relations with the blocks that they lie in; a list of relations that grows by append. -/
namespace Go.Proofs.Ytdkbhoichmcodaa
open Go.RowKit Go.Deep Go.ChangeShapes Go.WideShapes
set_option linter.unusedVariables false
/-- the relations rs lie in w from cell o of block b on, their rows in the blocks G. -/
def RLF (w : World) (b o : Nat) (rs : List R3) (G : List (List Nat)) : Prop :=
  ∀ i x g, rs[i]? = some x → G[i]? = some g → ∃ u, w.cell? ⟨b, o + i * 3, none⟩ = some (.string x.s) ∧ w.cell? ⟨b, o + i * 3 + 1, none⟩ = some (.int .i64 x.W) ∧ w.cell? ⟨b, o + i * 3 + 2, none⟩ = some u ∧ RowsF w u x.cs g
/-- the slice value v has the relations rs, in the blocks F. -/
def RelsF (w : World) (v : Value) (rs : List R3) (F : List Nat) : Prop :=
  ∃ (a : Option Addr) (c : Nat) (G : List (List Nat)), v = .slice a rs.length c ∧ rs.length ≤ c ∧ c ≤ maxLen ∧ (a = none → c = 0) ∧ G.length = rs.length ∧ (rs = [] → F = []) ∧
    (rs ≠ [] → ∃ b o, a = some ⟨b, o, none⟩ ∧ b < w.heap.size ∧ F = b :: G.flatten ∧ RLF w b o rs G)
theorem RelsF.is {w : World} {v : Value} {rs : List R3} {F : List Nat} (h : RelsF w v rs F) : RelsIs w v rs := by
  obtain ⟨a, c, G, rfl, hl, hc, _, hG, _, h⟩ := h
  refine ⟨a, c, rfl, hl, hc, fun hne => ?_⟩
  obtain ⟨b, o, rfl, hlt, _, hL⟩ := h hne
  refine ⟨b, o, rfl, hlt, fun i x hx => ?_⟩
  have hi : i < rs.length := (List.getElem?_eq_some_iff.1 hx).1
  have hi' : i < G.length := by omega
  obtain ⟨u, h0, h1, h2, h3⟩ := hL i x G[i] hx (by simp)
  exact ⟨u, h0, h1, h2, h3.is⟩
theorem RelsF.lt {w : World} {v : Value} {rs : List R3} {F : List Nat} (h : RelsF w v rs F) : ∀ b ∈ F, b < w.heap.size := by
  obtain ⟨a, c, G, rfl, hl, hc, _, hG, h0, h⟩ := h
  intro x hx
  by_cases hne : rs = []
  · rw [h0 hne] at hx; cases hx
  obtain ⟨b, o, rfl, hlt, rfl, hL⟩ := h hne
  rcases List.mem_cons.1 hx with rfl | hx
  · exact hlt
  obtain ⟨g, hg, hxg⟩ := List.mem_flatten.1 hx
  obtain ⟨i, hi, rfl⟩ := List.mem_iff_getElem.1 hg
  have hi' : i < rs.length := by omega
  obtain ⟨u, _, _, _, hk⟩ := hL i rs[i] G[i] (by simp) (by simp)
  exact hk.lt x hxg
theorem RLF.keep {w w' : World} {b o : Nat} {rs : List R3} {G : List (List Nat)} (h : RLF w b o rs G) (hs : w.heap.size ≤ w'.heap.size) (hb : w'.heap[b]? = w.heap[b]?) (hF : ∀ x ∈ G.flatten, w'.heap[x]? = w.heap[x]?) : RLF w' b o rs G := fun i x g hx hg => by
  obtain ⟨u, a0, a1, a2, a3⟩ := h i x g hx hg
  exact ⟨u, (cell_blk hb).trans a0, (cell_blk hb).trans a1, (cell_blk hb).trans a2, a3.keep hs fun y hy => hF y (List.mem_flatten.2 ⟨g, List.mem_of_getElem? hg, hy⟩)⟩
theorem RelsF.keep {w w' : World} {v : Value} {rs : List R3} {F : List Nat} (h : RelsF w v rs F) (hs : w.heap.size ≤ w'.heap.size) (hF : ∀ b ∈ F, w'.heap[b]? = w.heap[b]?) : RelsF w' v rs F := by
  obtain ⟨a, c, G, rfl, hl, hc, hz, hG, h0, h⟩ := h
  refine ⟨a, c, G, rfl, hl, hc, hz, hG, h0, fun hne => ?_⟩
  obtain ⟨b, o, rfl, hlt, rfl, hL⟩ := h hne
  exact ⟨b, o, rfl, Nat.lt_of_lt_of_le hlt hs, rfl, hL.keep hs (hF b List.mem_cons_self) fun x hx => hF x (List.mem_cons_of_mem _ hx)⟩
theorem RelsF.below {w w' : World} {v : Value} {rs : List R3} {F : List Nat} (h : RelsF w v rs F) (hb : Below w.heap.size w w') : RelsF w' v rs F := h.keep hb.size fun b hF => hb.block b (h.lt b hF)
theorem RelsF.chg {w w' : World} {v : Value} {rs : List R3} {F G : List Nat} (h : RelsF w v rs F) (hb : Chg G w w') (hd : ∀ b ∈ F, b ∉ G) : RelsF w' v rs F := h.keep hb.size fun b hF => hb.block b (h.lt b hF) (hd b hF)
theorem RelsF.pick {w : World} {v : Value} {rs : List R3} {F : List Nat} (h : RelsF w v rs F) :
    ∃ a c b o G, v = .slice a rs.length c ∧ rs.length ≤ c ∧ c ≤ maxLen ∧ (a = none → c = 0) ∧ G.length = rs.length ∧ (rs = [] → F = []) ∧ RLF w b o rs G ∧ ∀ n, n < rs.length → a = some ⟨b, o, none⟩ ∧ b < w.heap.size ∧ F = b :: G.flatten := by
  obtain ⟨a, c, G, rfl, hl, hc, hz, hG, h0, h⟩ := h
  by_cases hne : rs = []
  · exact ⟨a, c, 0, 0, G, rfl, hl, hc, hz, hG, h0, fun i x g hx => by rw [hne] at hx; simp at hx, fun k hk => by rw [hne] at hk; simp at hk⟩
  · obtain ⟨b, o, rfl, hlt, hF, hL⟩ := h hne
    exact ⟨_, c, b, o, G, rfl, hl, hc, hz, hG, h0, hL, fun _ _ => ⟨rfl, hlt, hF⟩⟩
theorem RLF.at {w w' : World} {b o : Nat} {rs : List R3} {G : List (List Nat)} (h : RLF w b o rs G) (hG : G.length = rs.length) (hlt : b < w.heap.size) (hb : Below w.heap.size w w') {k : Nat} (hk : k < rs.length) :
    ∃ x u g, rs[k]? = some x ∧ w'.cell? ⟨b, o + k * 3, none⟩ = some (.string x.s) ∧ w'.cell? ⟨b, o + k * 3 + 1, none⟩ = some (.int .i64 x.W) ∧ w'.cell? ⟨b, o + k * 3 + 2, none⟩ = some u ∧ RowsF w' u x.cs g ∧ b < w'.heap.size := by
  obtain ⟨u, h0, h1, h2, h3⟩ := h k rs[k] (G[k]'(by omega)) (by simp [hk]) (by simp)
  have hbb := hb.block b hlt
  exact ⟨rs[k], u, _, by simp [hk], (cell_blk hbb).trans h0, (cell_blk hbb).trans h1, (cell_blk hbb).trans h2, h3.below hb, Nat.lt_of_lt_of_le hlt hb.size⟩
/-- the cells of relations; us: their rows' slices. -/
def rcs (us : List Value) (rs : List R3) : List Value := (us.zip rs).flatMap fun p => [.string p.2.s, .int .i64 p.2.W, p.1]
theorem rcs_push {us : List Value} {rs : List R3} (h : us.length = rs.length) (u : Value) (x : R3) : rcs (us ++ [u]) (rs ++ [x]) = rcs us rs ++ [.string x.s, .int .i64 x.W, u] := by
  unfold rcs
  rw [List.zip_append h, List.flatMap_append]
  simp
theorem rcs_at {us : List Value} {rs : List R3} (h : us.length = rs.length) : ∀ {i : Nat} {u : Value} {x : R3}, us[i]? = some u → rs[i]? = some x → (rcs us rs)[i * 3]? = some (.string x.s) ∧ (rcs us rs)[i * 3 + 1]? = some (.int .i64 x.W) ∧ (rcs us rs)[i * 3 + 2]? = some u := by
  induction us generalizing rs with
  | nil => intro i u x hu; simp at hu
  | cons v us ih =>
    cases rs with
    | nil => simp at h
    | cons c rs =>
      intro i u x hu hx
      have e : rcs (v :: us) (c :: rs) = .string c.s :: .int .i64 c.W :: v :: rcs us rs := by unfold rcs; rw [List.zip_cons_cons, List.flatMap_cons]; rfl
      rw [e]
      cases i with
      | zero => simp at hu hx; subst hu hx; simp
      | succ i =>
        have := ih (rs := rs) (by simpa using h) (i := i) (u := u) (x := x) (by simpa using hu) (by simpa using hx)
        rw [show (i + 1) * 3 = i * 3 + 1 + 1 + 1 from by omega]
        simpa using this
/-- the slice value v has the relations rs, in memory of the call's own from N on. -/
structure RelOwn (w : World) (N : Nat) (v : Value) (rs : List R3) (us : List Value) (G : List (List Nat)) : Prop where
  own : w.ownsRow N 87 3 v rs.length (rcs us rs)
  ul : us.length = rs.length
  gl : G.length = rs.length
  row : ∀ (i : Nat) (x : R3) (u : Value) (g : List Nat), rs[i]? = some x → us[i]? = some u → G[i]? = some g → RowsF w u x.cs g
  free : Own w N G.flatten
  out : ∀ b, v.ownBlock = some b → b ∉ G.flatten
section
variable {w w' : World} {N : Nat} {v : Value} {rs : List R3} {us : List Value} {G : List (List Nat)}
theorem RelOwn.empty' {w : World} {N : Nat} (hN : N = w.heap.size) : RelOwn (w.alloc (.cells #[] 87)) N (.slice (some ⟨N, 0, none⟩) 0 0) [] [] [] := by
  subst hN
  exact ⟨⟨by simp [rcs], .inr ⟨w.heap.size, 0, #[], rfl, Nat.le_refl _, heap_alloc_new w _, Nat.le_refl _, by simp, by simp, by simp [rcs]⟩⟩, rfl, rfl, fun i x u g hx => by simp at hx, by simp [Own, Free], fun b _ => by simp⟩
theorem RelOwn.lt (h : RelOwn w N v rs us G) : ∀ b ∈ G.flatten, b < w.heap.size := by
  intro b hb
  obtain ⟨g, hg, hbg⟩ := List.mem_flatten.1 hb
  obtain ⟨i, hi, rfl⟩ := List.mem_iff_getElem.1 hg
  have h1 := h.gl
  have h2 := h.ul
  have hi1 : i < rs.length := by omega
  have hi2 : i < us.length := by omega
  exact (h.row i rs[i] us[i] G[i] (by simp) (by simp) (by simp)).lt b hbg
theorem RelOwn.keep (h : RelOwn w N v rs us G) (hs : w.heap.size ≤ w'.heap.size) (hb : ∀ b, N ≤ b → b < w.heap.size → w'.heap[b]? = w.heap[b]?) : RelOwn w' N v rs us G := by
  have hk : ∀ b ∈ G.flatten, w'.heap[b]? = w.heap[b]? := fun b hbG => hb b (h.free.2.1 b hbG) (h.lt b hbG)
  refine ⟨ownsRow_keep h.own fun b hv => hb b (ownsRow_lt h.own b hv).1 (ownsRow_lt h.own b hv).2, h.ul, h.gl, fun i x u g hx hu hg => (h.row i x u g hx hu hg).keep hs fun b hbg => hk b (List.mem_flatten.2 ⟨g, List.mem_of_getElem? hg, hbg⟩), h.free.keep hk, h.out⟩
theorem RelOwn.below (h : RelOwn w N v rs us G) (hb : Below w.heap.size w w') : RelOwn w' N v rs us G := h.keep hb.size fun b _ hlt => hb.block b hlt
theorem RelOwn.push {v' u : Value} {x : R3} {g : List Nat} (h : RelOwn w N v rs us G) (hR : RowsF w u x.cs g) (hO : Own w N g) (hd1 : ∀ b ∈ G.flatten, b ∉ g) (hd2 : ∀ b, v.ownBlock = some b → b ∉ g)
    (ho : w'.ownsRow N 87 3 v' (rs.length + 1) (rcs us rs ++ [.string x.s, .int .i64 x.W, u])) (hg : w.grownBy w' v.ownBlock) (hat : ∀ b, v'.ownBlock = some b → v.ownBlock = some b ∨ w.heap.size ≤ b) :
    RelOwn w' N v' (rs ++ [x]) (us ++ [u]) (G ++ [g]) := by
  have hG := h.lt
  have hm : ∀ b ∈ (G ++ [g]).flatten, b ∈ G.flatten ∨ b ∈ g := by intro b hb; simpa using hb
  have hlt : ∀ b ∈ (G ++ [g]).flatten, b < w.heap.size := fun b hb => (hm b hb).elim (hG b) (hR.lt b)
  have hne : ∀ b ∈ (G ++ [g]).flatten, some b ≠ v.ownBlock := fun b hb e => (hm b hb).elim (h.out b e.symm) (hd2 b e.symm)
  have hk : ∀ b ∈ (G ++ [g]).flatten, w'.heap[b]? = w.heap[b]? := fun b hb => hg.block b (hlt b hb) (hne b hb)
  refine ⟨?_, by simp [h.ul], by simp [h.gl], fun i y z q hy hz hq => ?_, ?_, fun b hb => ?_⟩
  · rw [rcs_push h.ul]; simpa using ho
  · by_cases hi : i < rs.length
    · rw [List.getElem?_append_left hi] at hy
      rw [List.getElem?_append_left (by rw [h.ul]; exact hi)] at hz
      rw [List.getElem?_append_left (by rw [h.gl]; exact hi)] at hq
      exact (h.row i y z q hy hz hq).keep hg.size fun b hb => hk b (by simp; exact .inl ⟨q, List.mem_of_getElem? hq, hb⟩)
    · have hl : i < (rs ++ [x]).length := (List.getElem?_eq_some_iff.1 hy).1
      obtain rfl : i = rs.length := by simp at hl; omega
      rw [List.getElem?_append_right (Nat.le_refl _)] at hy
      rw [List.getElem?_append_right (by rw [h.ul]; exact Nat.le_refl _)] at hz
      rw [List.getElem?_append_right (by rw [h.gl]; exact Nat.le_refl _)] at hq
      simp [h.ul, h.gl] at hy hz hq
      subst hy hz hq
      exact hR.keep hg.size fun b hb => hk b (by simp; exact .inr hb)
  · refine Own.keep (w := w) ⟨?_, fun b hb => (hm b hb).elim (h.free.2.1 b) (hO.2.1 b), fun b hb => (hm b hb).elim (h.free.2.2 b) (hO.2.2 b)⟩ hk
    rw [List.flatten_append, List.nodup_append]
    refine ⟨h.free.1, by simpa using hO.1, fun a ha b hb => ?_⟩
    rintro rfl
    exact hd1 a ha (by simpa using hb)
  · intro hx
    rcases hat b hb with e | e
    · exact hne b hx e.symm
    · have := hlt b hx; omega
theorem RelOwn.shape (h : RelOwn w N v rs us G) : ∃ a c, v = .slice a rs.length c := by
  rcases h.own.2 with ⟨rfl, h0⟩ | ⟨g, cap, cur, hv, _⟩
  · exact ⟨none, 0, by rw [h0]⟩
  · exact ⟨_, cap, hv⟩
theorem RelOwn.relsF (h : RelOwn w N v rs us G) : ∃ F, RelsF w v rs F ∧ Own w N F := by
  have hlt := ownsRow_lt h.own
  have hGl := h.lt
  by_cases hne : rs = []
  · refine ⟨[], ?_, by simp [Own, Free]⟩
    have hgl := h.gl
    subst hne
    rcases h.own.2 with ⟨rfl, _⟩ | ⟨g, cap, cur, rfl, _, _, hn, hm, _⟩
    · exact ⟨none, 0, G, rfl, Nat.le_refl _, by simp, fun _ => rfl, hgl, fun _ => rfl, fun x => absurd rfl x⟩
    · exact ⟨_, cap, G, rfl, hn, hm, (fun x => by cases x), hgl, fun _ => rfl, fun x => absurd rfl x⟩
  have hp : 0 < rs.length := List.length_pos_iff.2 hne
  obtain ⟨hl, ho⟩ := h.own
  rcases ho with ⟨_, h0⟩ | ⟨g, cap, cur, rfl, hg, hc, hn, hm, hs, ht⟩
  · omega
  have hgo : g ∉ G.flatten := h.out g rfl
  refine ⟨g :: G.flatten, ⟨_, cap, G, rfl, hn, hm, (fun x => by cases x), h.gl, fun x => absurd x hne, fun _ => ⟨g, 0, rfl, (hlt g rfl).2, rfl, fun i x q hx hq => ?_⟩⟩, List.nodup_cons.2 ⟨hgo, h.free.1⟩, fun b hb => ?_, fun b hb o => ?_⟩
  · have hi : i < rs.length := (List.getElem?_eq_some_iff.1 hx).1
    have hiu : i < us.length := by rw [h.ul]; exact hi
    obtain ⟨e0, e1, e2⟩ := rcs_at h.ul (i := i) (u := us[i]) (x := x) (by simp) hx
    have get : ∀ j u, j < rs.length * 3 → (rcs us rs)[j]? = some u → w.cell? ⟨g, j, none⟩ = some u := by
      intro j u hj hu
      simp only [World.cell?, hc]
      rw [← ht, List.getElem?_take, if_pos hj, Array.getElem?_toList] at hu
      simpa using hu
    exact ⟨us[i], by rw [Nat.zero_add]; exact get _ _ (by omega) e0, by rw [Nat.zero_add]; exact get _ _ (by omega) e1, by rw [Nat.zero_add]; exact get _ _ (by omega) e2, h.row i x us[i] q hx (by simp) hq⟩
  · rcases List.mem_cons.1 hb with rfl | hb
    · exact hg
    · exact h.free.2.1 b hb
  · rcases List.mem_cons.1 hb with rfl | hb
    · simp [World.frozen?, hc]
    · exact h.free.2.2 b hb o
end
end Go.Proofs.Ytdkbhoichmcodaa
/- Own text. toBag, with the blocks of what it makes. -/
namespace Go.Proofs.Ytdkbhoichmcodaa
open Go.RowKit Go.Deep
set_option linter.unusedVariables false
theorem HalfB.rowsF {w : World} {B : Nat} {cs : List C2} {g : Nat → Nat} (h : HalfB w B cs g cs.length) (hl : ∀ x ∈ cs, x.r.length ≤ maxLen) (hm : cs.length ≤ maxLen) : ∃ F, RowsF w (.slice (some ⟨B, 0, none⟩) cs.length cs.length) cs F ∧ Own w B F := by
  obtain ⟨f, hf, he⟩ := h.own
  by_cases hne : cs = []
  · exact ⟨[], ⟨_, _, [], rfl, Nat.le_refl _, hm, (fun x => by cases x), by rw [hne]; rfl, fun _ => rfl, fun x => absurd hne x⟩, by simp [Own, Free]⟩
  let G : List (List Nat) := (List.range cs.length).map fun i => if (cs.getD i ⟨[], 0⟩).r = [] then [] else [g i]
  have hGl : G.length = cs.length := by simp [G]
  have hGi : ∀ i q, G[i]? = some q → i < cs.length ∧ q = if (cs.getD i ⟨[], 0⟩).r = [] then [] else [g i] := by
    intro i q hq
    have hi : i < cs.length := by have := (List.getElem?_eq_some_iff.1 hq).1; omega
    refine ⟨hi, ?_⟩
    simp [G, hi] at hq
    rw [← hq]
    simp [hi]
  have hmem : ∀ b ∈ G.flatten, ∃ i, i < cs.length ∧ b = g i := by
    intro b hb
    obtain ⟨q, hq, hbq⟩ := List.mem_flatten.1 hb
    obtain ⟨i, hi, rfl⟩ := List.mem_iff_getElem.1 hq
    obtain ⟨hi', e⟩ := hGi i G[i] (by simp)
    rw [e] at hbq
    split at hbq
    · cases hbq
    · exact ⟨i, hi', List.mem_singleton.1 hbq⟩
  refine ⟨B :: G.flatten, ⟨_, _, G, rfl, Nat.le_refl _, hm, (fun x => by cases x), hGl, fun x => absurd x hne, fun _ => ⟨B, 0, rfl, hf.lt, rfl, fun i x q hx hq => ?_⟩⟩, ?_, fun b hb => ?_, fun b hb o => ?_⟩
  · obtain ⟨hi, eq⟩ := hGi i q hq
    obtain ⟨e0, e1⟩ := he i x hi hx
    have ex : cs.getD i ⟨[], 0⟩ = x := by simp [List.getD, hx]
    rw [ex] at eq
    have hrow := h.row i x hi hx
    refine ⟨.slice (some ⟨g i, 0, none⟩) x.r.length x.r.length, by rw [Nat.zero_add, hf.cell (by omega), e0], ⟨_, _, rfl, Nat.le_refl _, hl x (List.mem_of_getElem? hx), (fun x => by cases x), fun e => by rw [eq, if_pos e], fun hn => ⟨g i, 0, rfl, hrow.lt, by rw [eq, if_neg hn], ?_⟩⟩, by rw [Nat.zero_add, hf.cell (by omega), e1]⟩
    refine lies_cells.2 fun j hj => ?_
    rw [Nat.zero_add]
    exact hrow.cell hj
  · refine List.nodup_cons.2 ⟨fun hb => ?_, ?_⟩
    · obtain ⟨i, hi, e⟩ := hmem B hb
      have := h.above i hi
      omega
    · rw [List.Nodup, List.pairwise_flatten]
      constructor
      · intro q hq
        obtain ⟨i, hi, rfl⟩ := List.mem_iff_getElem.1 hq
        obtain ⟨hi', e⟩ := hGi i G[i] (by simp)
        rw [e]
        split <;> simp
      · rw [List.pairwise_iff_getElem]
        intro i j hi hj hij x hx y hy
        obtain ⟨hi', ei⟩ := hGi i G[i] (by simp)
        obtain ⟨hj', ej⟩ := hGi j G[j] (by simp)
        rw [ei] at hx
        rw [ej] at hy
        split at hx
        · cases hx
        · split at hy
          · cases hy
          · have := h.up i j hij hj'
            have e1 := List.mem_singleton.1 hx
            have e2 := List.mem_singleton.1 hy
            omega
  · rcases List.mem_cons.1 hb with rfl | hb
    · exact Nat.le_refl _
    · obtain ⟨i, hi, rfl⟩ := hmem b hb
      exact Nat.le_of_lt (h.above i hi)
  · rcases List.mem_cons.1 hb with rfl | hb
    · exact hf.frozen o
    · obtain ⟨i, hi, rfl⟩ := hmem b hb
      exact (h.row i cs[i] hi (by simp)).frozen o
/-- toBag, with the blocks of what it makes. -/
theorem toBag_F (W : Int) (v : Value) (cs : List C2) (w : World) (hr : RowsIs w v cs) (hn : wtb cs ≤ 1048576) :
    Calls Try.prog 109 #[.agg #[.int .i64 W, v]] w fun e w' => (∃ u F, e = .returned (.agg #[.int .i64 W, u]) ∧ RowsF w' u cs F ∧ Own w' w.heap.size F) ∧ Below w.heap.size w w' :=
  (toBag_any W v cs w hr hn).mono fun e w' ⟨⟨B, g, hB, he, h⟩, hb⟩ => by
    obtain ⟨F, h1, h2⟩ := h.rowsF (fun x hx => by have := wt_mem hx; unfold wt at this; unfold wtb at hn; unfold maxLen; omega) (by unfold wtb at hn; unfold maxLen; omega)
    exact ⟨⟨_, F, he, h1, h2.1, fun b hb => Nat.le_trans hB (h2.2.1 b hb), h2.2.2⟩, hb⟩
end Go.Proofs.Ytdkbhoichmcodaa
/- Own text. toRelS, with the blocks of what it makes. -/
namespace Go.Proofs.Ytdkbhoichmcodaa
open Go.RowKit Go.Deep
set_option linter.unusedVariables false
/-- relations of the call's own: block B0 has them, the first k are laid, their rows in the blocks G. -/
structure HalfRF (w : World) (B0 : Nat) (rs : List R3) (k : Nat) (G : List (List Nat)) : Prop where
  row : ∃ f, w.rowIs B0 87 (rs.length * 3) f ∧ ∀ i x g, i < k → rs[i]? = some x → G[i]? = some g → f (i * 3) = .string x.s ∧ f (i * 3 + 1) = .int .i64 x.W ∧ RowsF w (f (i * 3 + 2)) x.cs g
  gl : G.length = k
  kl : k ≤ rs.length
  own : Own w (B0 + 1) G.flatten
theorem HalfRF.cells {w : World} {B : Nat} {rs : List R3} {k : Nat} {G : List (List Nat)} (h : HalfRF w B rs k G) (hk : k < rs.length) :
    (∃ u, w.cell? ⟨B, k * 3, none⟩ = some u) ∧ (∃ u, w.cell? ⟨B, k * 3 + 1, none⟩ = some u) ∧ (∃ u, w.cell? ⟨B, k * 3 + 2, none⟩ = some u) ∧ (∀ i, w.frozen? ⟨B, i, none⟩ = false) ∧ B < w.heap.size := by
  obtain ⟨f, h, _⟩ := h.row
  exact ⟨⟨_, h.cell (by omega)⟩, ⟨_, h.cell (by omega)⟩, ⟨_, h.cell (by omega)⟩, fun i => h.frozen i, h.lt⟩
theorem HalfRF.lt {w : World} {B : Nat} {rs : List R3} {k : Nat} {G : List (List Nat)} (h : HalfRF w B rs k G) : ∀ b ∈ G.flatten, b < w.heap.size := by
  intro b hb
  obtain ⟨g, hg, hbg⟩ := List.mem_flatten.1 hb
  obtain ⟨i, hi, rfl⟩ := List.mem_iff_getElem.1 hg
  have h1 := h.gl
  have h2 := h.kl
  obtain ⟨f, _, he⟩ := h.row
  have hi' : i < rs.length := by omega
  exact (he i rs[i] G[i] (by omega) (by simp) (by simp)).2.2.lt b hbg
theorem HalfRF.below {w w' : World} {B : Nat} {rs : List R3} {k : Nat} {G : List (List Nat)} (h : HalfRF w B rs k G) (hb : Below w.heap.size w w') : HalfRF w' B rs k G := by
  have hlt := h.lt
  obtain ⟨⟨f, hf, he⟩, gl, kl, own⟩ := h
  refine ⟨⟨f, hf.of_block (hb.block _ hf.lt), fun i x g hi hx hg => ?_⟩, gl, kl, own.below hlt hb⟩
  obtain ⟨h0, h1, h2⟩ := he i x g hi hx hg
  exact ⟨h0, h1, h2.below hb⟩
theorem HalfRF.step {w : World} {B : Nat} {rs : List R3} {k : Nat} {G : List (List Nat)} {x : R3} {u : Value} {g : List Nat} {M : Nat} (h : HalfRF w B rs k G) (hx : rs[k]? = some x) (hR : RowsF w u x.cs g) (hO : Own w M g) (hM : B < M) (hd : ∀ b ∈ G.flatten, b < M) :
    HalfRF (((w.setCell ⟨B, k * 3, none⟩ (.string x.s)).setCell ⟨B, k * 3 + 1, none⟩ (.int .i64 x.W)).setCell ⟨B, k * 3 + 2, none⟩ u) B rs (k + 1) (G ++ [g]) := by
  obtain ⟨⟨f, hf, he⟩, gl, kl, own⟩ := h
  have hblk : ∀ b, B < b → (((w.setCell ⟨B, k * 3, none⟩ (.string x.s)).setCell ⟨B, k * 3 + 1, none⟩ (.int .i64 x.W)).setCell ⟨B, k * 3 + 2, none⟩ u).heap[b]? = w.heap[b]? := by
    intro b hb
    repeat rw [Below.heap_setCell _ _ _ _ (by show b ≠ B; omega)]
  refine ⟨⟨_, ((hf.set _ _).set _ _).set _ _, fun i y g' hi hy hg' => ?_⟩, by simp [gl], (List.getElem?_eq_some_iff.1 hx).1, ?_⟩
  · by_cases e : i = k
    · subst e
      obtain rfl : y = x := by rw [hx] at hy; exact (Option.some.inj hy).symm
      obtain rfl : g' = g := by rw [List.getElem?_append_right (by omega), gl] at hg'; simp at hg'; exact hg'.symm
      refine ⟨by simp, by simp, ?_⟩
      simp only [if_true]
      exact hR.keep (by simp) fun b hb => hblk b (by have := hO.2.1 b hb; omega)
    · have n : ∀ p q : Nat, p < 3 → q < 3 → i * 3 + p ≠ k * 3 + q := by intro p q hp hq; omega
      have n0 : ∀ q : Nat, q < 3 → i * 3 ≠ k * 3 + q := by intro q hq; omega
      have n1 : ∀ p : Nat, p < 3 → i * 3 + p ≠ k * 3 := by intro q hq; omega
      have n2 : i * 3 ≠ k * 3 := by omega
      rw [List.getElem?_append_left (by omega)] at hg'
      obtain ⟨h0, h1, h2⟩ := he i y g' (by omega) hy hg'
      refine ⟨?_, ?_, ?_⟩
      · simp only [if_neg n2, if_neg (n0 1 (by omega)), if_neg (n0 2 (by omega))]; exact h0
      · simp only [if_neg (n1 1 (by omega)), if_neg (n 1 1 (by omega) (by omega)), if_neg (n 1 2 (by omega) (by omega))]; exact h1
      · simp only [if_neg (n1 2 (by omega)), if_neg (n 2 1 (by omega) (by omega)), if_neg (n 2 2 (by omega) (by omega))]
        exact h2.keep (by simp) fun b hb => hblk b (by have := own.2.1 b (List.mem_flatten.2 ⟨g', List.mem_of_getElem? hg', hb⟩); omega)
  · have hm : ∀ b ∈ (G ++ [g]).flatten, b ∈ G.flatten ∨ b ∈ g := by intro b hb; simpa using hb
    have hgt : ∀ b ∈ (G ++ [g]).flatten, B + 1 ≤ b := fun b hb => (hm b hb).elim (own.2.1 b) (fun h => by have := hO.2.1 b h; omega)
    refine Own.keep (w := w) ⟨?_, hgt, fun b hb => (hm b hb).elim (own.2.2 b) (hO.2.2 b)⟩ fun b hb => hblk b (hgt b hb)
    rw [List.flatten_append, List.nodup_append]
    refine ⟨own.1, by simpa using hO.1, fun a ha b hb => ?_⟩
    rintro rfl
    have h1 := hd a ha
    have h2 := hO.2.1 a (by simpa using hb)
    omega
theorem HalfRF.relsF {w : World} {B : Nat} {rs : List R3} {G : List (List Nat)} (h : HalfRF w B rs rs.length G) (hn : wtR rs ≤ 1048576) : ∃ F, RelsF w (.slice (some ⟨B, 0, none⟩) rs.length rs.length) rs F ∧ Own w B F := by
  obtain ⟨⟨f, hf, he⟩, gl, kl, own⟩ := h
  have hm : rs.length ≤ maxLen := by unfold wtR at hn; unfold maxLen; omega
  by_cases hne : rs = []
  · exact ⟨[], ⟨_, _, G, rfl, Nat.le_refl _, hm, (fun x => by cases x), gl, fun _ => rfl, fun x => absurd hne x⟩, by simp [Own, Free]⟩
  refine ⟨B :: G.flatten, ⟨_, _, G, rfl, Nat.le_refl _, hm, (fun x => by cases x), gl, fun x => absurd x hne, fun _ => ⟨B, 0, rfl, hf.lt, rfl, fun i x g hx hg => ?_⟩⟩, List.nodup_cons.2 ⟨fun hb => by have := own.2.1 B hb; omega, own.1⟩, fun b hb => ?_, fun b hb o => ?_⟩
  · have hi : i < rs.length := (List.getElem?_eq_some_iff.1 hx).1
    obtain ⟨e0, e1, e2⟩ := he i x g hi hx hg
    exact ⟨_, by rw [Nat.zero_add, hf.cell (by omega), e0], by rw [Nat.zero_add, hf.cell (by omega), e1], by rw [Nat.zero_add, hf.cell (by omega)], e2⟩
  · rcases List.mem_cons.1 hb with rfl | hb
    · exact Nat.le_refl _
    · have := own.2.1 b hb; omega
  · rcases List.mem_cons.1 hb with rfl | hb
    · exact hf.frozen o
    · exact own.2.2 b hb o
theorem halfRF_made (w : World) (z : Array Value) (rs : List R3) : HalfRF (w.alloc (.cells (madeCells z (rs.length * 3)) 87)) w.heap.size rs 0 [] :=
  ⟨⟨fun i => (madeCells z (rs.length * 3))[i]?.getD undef, ⟨_, blk_alloc_new _ _, size_madeCells _ _, fun i hi => by
    have : i < (madeCells z (rs.length * 3)).size := by rw [size_madeCells]; exact hi
    simp [this]⟩, fun i x g hi => by omega⟩, rfl, Nat.zero_le _, by simp [Own, Free]⟩
theorem toRel_F (s : ByteArray) (W : Int) (v : Value) (cs : List C2) (w : World) (hr : RowsIs w v cs) (hn : wtb cs ≤ 1048576) :
    Calls Try.prog 58 #[.agg #[.string s, .int .i64 W, v]] w fun e w' => (∃ a l c F, e = .returned (.agg #[.string s, .int .i64 W, .slice a l c]) ∧ RowsF w' (.slice a l c) cs F ∧ Own w' w.heap.size F) ∧ Below w.heap.size w w' :=
  (toRel_any s W v cs w hr hn).mono fun e w' ⟨⟨B, g, hB, he, h⟩, hb⟩ => by
    obtain ⟨F, h1, h2⟩ := h.rowsF (wtb_rows hn).1 (wtb_rows hn).2
    exact ⟨⟨_, _, _, F, he, h1, h2.1, fun b hb => Nat.le_trans hB (h2.2.1 b hb), h2.2.2⟩, hb⟩
set_option maxHeartbeats 2000000 in
set_option maxRecDepth 100000 in
theorem toRelS_F (v : Value) (rs : List R3) (w : World) (hr : RelsIs w v rs) (hn : wtR rs ≤ 1048576) :
    Calls Try.prog 21 #[v] w fun e w' => (∃ u F, e = .returned u ∧ RelsF w' u rs F ∧ Own w' w.heap.size F) ∧ Below w.heap.size w w' := by
  obtain ⟨a, c, b, o, rfl, hl, hc, ha⟩ := hr.pick
  unfold maxLen at hc
  clear hr
  have hn1 : rs.length ≤ 1048576 := by unfold wtR at hn; omega
  have hmk := run_make_wide (P := Try.prog) 38 87 _ 3 48 Try.underlying38 Try.infoRel rs.length (by omega) (by omega)
  go_enter Try.func21, Try.ntmps21
  go_wp2
  go_loopw [4] (fun i wr => ∃ (k : Nat) (G : List (List Nat)), k ≤ rs.length ∧ i = .int .i64 k ∧ Below w.heap.size w wr ∧ HalfRF wr w.heap.size rs k G) (fun i _ => rs.length - (intOf i).toNat)
  case atStart => exact ⟨0, [], Nat.zero_le _, rfl, by go_grown, halfRF_made _ _ _⟩
  case round =>
    obtain ⟨k, G, hk, rfl, hb, hH⟩ := hrel
    clear hmk
    by_cases hlt : k < rs.length
    · have hzb := hb.size
      obtain ⟨rfl, hblt, hL⟩ := ha k hlt
      obtain ⟨x, u, hx, c0, c1, c2, hR, hbr⟩ := hL.at hblt hb hlt
      have HX : Hid (rs[k]? = some x) := hx
      have hxn : wtb x.cs ≤ 1048576 := by have := wtr_mem (List.mem_of_getElem? hx); unfold wtr at this; unfold wtR at hn; omega
      have hBr := (hH.cells hlt).2.2.2.2
      have hGl := hH.lt
      clear ha hL hx
      go_wp2_with (go_at_call 58; refine (toRel_F _ _ _ _ _ hR hxn).mono ?_; rintro e w1 ⟨⟨a1, l1, d1, g, rfl, hRD, hOD⟩, hb1⟩; have hz1 := hb1.size; have hH1 := hH.below hb1; obtain ⟨⟨y0, g0⟩, ⟨y1, g1⟩, ⟨y2, g2⟩, gf, gs⟩ := hH1.cells hlt)
      refine ⟨⟨k + 1, _, hlt, by simp, by repeat (first | exact Below.refl _ _ | refine Below.drew ?_ | refine Below.alloc ?_ (by first | (simp; done) | (simp; omega) | omega) _ | refine Below.setCell ?_ (by first | (simp; done) | (simp; omega) | omega) _ | refine bstep (by assumption) (by first | (simp; done) | (simp; omega) | omega) ?_), hH1.step HX.out hRD hOD (by omega) hGl⟩, by simp [intOf]; omega⟩
    · go_wp2
      go_returns
      obtain rfl : k = rs.length := by omega
      obtain ⟨F, h1, h2⟩ := hH.relsF hn
      exact ⟨⟨_, F, rfl, h1, h2⟩, hb⟩
end Go.Proofs.Ytdkbhoichmcodaa
/- Own text. Lists of texts: eqStringS at one list twice. -/
namespace Go.Proofs.Ytdkbhoichmcodaa
open Go.RowKit Go.Deep
set_option linter.unusedVariables false
set_option maxHeartbeats 1000000 in
set_option maxRecDepth 100000 in
theorem eqStringS_same (v u : Value) (ns : List ByteArray) (g g' : List Nat) (w : World) (hr : StrsF w v ns g) (hu : StrsF w u ns g') :
    Calls Try.prog 73 #[v, u] w fun e w' => e = .returned (.bool true) ∧ Below w.heap.size w w' := by
  obtain ⟨a, c, b, o, rfl, hl, hc, _, ha⟩ := hr.pick
  obtain ⟨a', c', b', o', rfl, hl', hc', _, ha'⟩ := hu.pick
  unfold maxLen at hc hc'
  clear hr hu
  go_enter Try.func73, Try.ntmps73
  go_wp2
  go_loopw [5] (fun i wr => ∃ n : Nat, n ≤ ns.length ∧ i = .int .i64 n ∧ Below w.heap.size w wr) (fun i _ => ns.length - (intOf i).toNat)
  case atStart => exact ⟨0, Nat.zero_le _, rfl, by go_grown⟩
  case round =>
    obtain ⟨n, hn, rfl, hb⟩ := hrel
    by_cases hlt : n < ns.length
    · obtain ⟨rfl, hblt, _, hC⟩ := ha n hlt
      obtain ⟨rfl, hblt', _, hC'⟩ := ha' n hlt
      have hzb := hb.size
      have c0 := (hb.cell (p := ⟨b, _, none⟩) hblt).trans (hC n ns[n] (by simp))
      have c1 := (hb.cell (p := ⟨b', _, none⟩) hblt').trans (hC' n ns[n] (by simp))
      generalize ns[n] = z at c0 c1
      clear ha ha' hC hC'
      have hbr : b < wr.heap.size := by omega
      have hbr' : b' < wr.heap.size := by omega
      go_wp2_with fail
      go_region_with fail
      all_goals go_wp2
      all_goals exact ⟨⟨n + 1, hlt, by simp, by repeat (first | (with_reducible exact Below.refl _ _) | (with_reducible refine Below.drew ?_) | (with_reducible refine Below.alloc ?_ ?hh _; case hh => first | (simp; done) | (simp; omega) | omega) | (with_reducible refine Below.setCell ?_ ?hh _; case hh => first | (simp; done) | (simp; omega) | omega) | refine bstep (by assumption) (by first | (simp; done) | (simp; omega) | omega) ?_)⟩, by simp [intOf]; omega⟩
    · go_wp2
      go_returns
      exact ⟨rfl, hb⟩
end Go.Proofs.Ytdkbhoichmcodaa
/- Own text. Lists of texts: how much one weighs (szStringS), a new one with the same texts (toStringS). -/
namespace Go.Proofs.Ytdkbhoichmcodaa
open Go.RowKit Go.Deep
set_option linter.unusedVariables false
set_option maxHeartbeats 2000000 in
set_option maxRecDepth 100000 in
theorem szStringS_any (v : Value) (ns : List ByteArray) (g : List Nat) (left : Int) (w : World) (hr : StrsF w v ns g) (hw : SsWf ns) (h0 : 0 ≤ left) (h1 : left ≤ 1048576) :
    Calls Try.prog 65 #[v, .int .i64 left] w fun e w' => (∃ z : Int, e = .returned (.int .i64 z) ∧ -1 ≤ z ∧ z ≤ left ∧ (0 ≤ z → z + (ns.length + wtSs ns) = left)) ∧ Below w.heap.size w w' := by
  obtain ⟨a, c, b, o, rfl, hl, hc, _, ha⟩ := hr.pick
  unfold maxLen at hc
  clear hr
  by_cases hbig : left - ns.length < 0
  · go_enter Try.func65, Try.ntmps65
    go_wp2
    go_returns
    exact ⟨⟨-1, rfl, by omega, by omega, by omega⟩, by go_grown⟩
  go_enter Try.func65, Try.ntmps65
  go_wp2
  go_loopw [1, 5] (fun l i wr => ∃ k : Nat, k ≤ ns.length ∧ i = .int .i64 k ∧ l = .int .i64 (left - ns.length - wtSs (ns.take k)) ∧ 0 ≤ left - ns.length - wtSs (ns.take k) ∧ Below w.heap.size w wr) (fun _ i _ => ns.length - (intOf i).toNat)
  case atStart => exact ⟨0, Nat.zero_le _, rfl, by simp [wtSs], by simp [wtSs]; omega, by go_grown⟩
  case round =>
    obtain ⟨k, hk, rfl, rfl, hp, hb⟩ := hrel
    by_cases hlt : k < ns.length
    · have hzb := hb.size
      obtain ⟨rfl, hblt, _, hC⟩ := ha k hlt
      have hx : ns[k]? = some ns[k] := by simp
      have c0 := (hb.cell (p := ⟨b, _, none⟩) hblt).trans (hC k ns[k] hx)
      have hxs : ns[k].size ≤ maxLen := hw ns[k] (List.getElem_mem hlt)
      have hT : Hid (wtSs (ns.take (k + 1)) = wtSs (ns.take k) + ns[k].size) := wtSs_take hx
      unfold maxLen at hxs
      generalize ns[k] = z at c0 hxs hT
      clear ha hC hx
      have hbr : b < wr.heap.size := by omega
      have hp1 : left - ns.length - wtSs (ns.take k) ≤ 1048576 := by omega
      obtain ⟨W, HW⟩ : ∃ W : Int, Hid (left - ns.length - wtSs (ns.take k) = W) := ⟨_, rfl⟩
      rw [HW.out] at hp hp1 ⊢
      by_cases hn : W - z.size < 0
      · go_wp2_with fail
        go_returns
        exact ⟨⟨-1, rfl, by omega, by omega, by omega⟩, hb⟩
      · go_wp2_with fail
        have hT := hT.out
        have hW := HW.out
        exact ⟨⟨k + 1, hlt, by simp, by congr 1; omega, by omega, hb⟩, by simp [intOf]; omega⟩
    · go_wp2
      go_returns
      have hkk : k = ns.length := by omega
      subst hkk
      refine ⟨⟨_, rfl, by omega, by omega, fun _ => ?_⟩, hb⟩
      rw [List.take_length]; omega
theorem Try.infoStr : (Try.prog.info? 9).map (fun i => (i.zero, i.size, i.bytes)) = some (some (.string ⟨#[]⟩), 1, 16) := by kernel_rfl
/-- texts of the call's own: block B has them, the first k are laid. -/
def HalfS (w : World) (B : Nat) (ns : List ByteArray) (k : Nat) : Prop := ∃ f, w.rowIs B 9 ns.length f ∧ ∀ i n, i < k → ns[i]? = some n → f i = .string n
theorem HalfS.cells {w : World} {B : Nat} {ns : List ByteArray} {k : Nat} (h : HalfS w B ns k) (hk : k < ns.length) : (∃ u, w.cell? ⟨B, k, none⟩ = some u) ∧ (∀ i, w.frozen? ⟨B, i, none⟩ = false) ∧ B < w.heap.size := by
  obtain ⟨f, h, _⟩ := h
  exact ⟨⟨_, h.cell (by omega)⟩, fun i => h.frozen i, h.lt⟩
theorem HalfS.step {w : World} {B : Nat} {ns : List ByteArray} {k : Nat} {x : ByteArray} (h : HalfS w B ns k) (hx : ns[k]? = some x) : HalfS (w.setCell ⟨B, k, none⟩ (.string x)) B ns (k + 1) := by
  obtain ⟨f, h, e⟩ := h
  refine ⟨_, h.set _ _, fun i y hi hy => ?_⟩
  by_cases ek : i = k
  · subst ek
    rw [hx] at hy
    simp [Option.some.inj hy]
  · simp only [if_neg ek]
    exact e i y (by omega) hy
theorem halfS_made (w : World) (z : Array Value) (ns : List ByteArray) : HalfS (w.alloc (.cells (madeCells z ns.length) 9)) w.heap.size ns 0 :=
  ⟨fun i => (madeCells z ns.length)[i]?.getD undef, ⟨_, blk_alloc_new _ _, size_madeCells _ _, fun i hi => by
    have : i < (madeCells z ns.length).size := by rw [size_madeCells]; exact hi
    simp [this]⟩, fun i x hi => by omega⟩
theorem HalfS.done {w : World} {B : Nat} {ns : List ByteArray} (h : HalfS w B ns ns.length) (hm : ns.length ≤ maxLen) (hne : ns ≠ []) : StrsF w (.slice (some ⟨B, 0, none⟩) ns.length ns.length) ns [B] ∧ OwnN w B [B] := by
  obtain ⟨f, hf, he⟩ := h
  refine ⟨⟨_, _, rfl, Nat.le_refl _, hm, fun h => absurd h hne, fun _ => ⟨B, 0, rfl, hf.lt, rfl, fun i n hn => ?_⟩⟩, by simp, fun b hb => ?_⟩
  · have hi : i < ns.length := (List.getElem?_eq_some_iff.1 hn).1
    rw [Nat.zero_add, hf.cell (by omega), he i n hi hn]
  · rcases List.mem_singleton.1 hb with rfl
    exact ⟨Nat.le_refl _, fun o => hf.frozen o⟩
set_option maxHeartbeats 2000000 in
set_option maxRecDepth 100000 in
theorem toStringS_any (v : Value) (ns : List ByteArray) (g : List Nat) (w : World) (hr : StrsF w v ns g) (hn : ns.length ≤ 1048576) :
    Calls Try.prog 69 #[v] w fun e w' => (∃ u g', e = .returned u ∧ StrsF w' u ns g' ∧ OwnN w' w.heap.size g') ∧ Below w.heap.size w w' := by
  obtain ⟨a, c, b, o, rfl, hl, hc, _, ha⟩ := hr.pick
  unfold maxLen at hc
  clear hr
  have hmk := run_make_wide (P := Try.prog) 41 9 _ 1 16 Try.underlying41 Try.infoStr ns.length (by omega) (by omega)
  go_enter Try.func69, Try.ntmps69
  go_wp2
  go_loopw [4] (fun i wr => ∃ k : Nat, k ≤ ns.length ∧ i = .int .i64 k ∧ Below w.heap.size w wr ∧ HalfS wr w.heap.size ns k) (fun i _ => ns.length - (intOf i).toNat)
  case atStart => exact ⟨0, Nat.zero_le _, rfl, by go_grown, halfS_made _ _ _⟩
  case round =>
    obtain ⟨k, hk, rfl, hb, hH⟩ := hrel
    clear hmk
    by_cases hlt : k < ns.length
    · have hzb := hb.size
      obtain ⟨rfl, hblt, _, hC⟩ := ha k hlt
      have hx : ns[k]? = some ns[k] := by simp
      have c0 := (hb.cell (p := ⟨b, _, none⟩) hblt).trans (hC k ns[k] hx)
      have HX : Hid (ns[k]? = some ns[k]) := hx
      generalize ns[k] = z at c0 HX
      obtain ⟨⟨y0, q0⟩, gf, gs⟩ := hH.cells hlt
      have hbr : b < wr.heap.size := by omega
      clear ha hC hx
      go_wp2
      exact ⟨⟨k + 1, hlt, by simp, by repeat (first | (with_reducible exact Below.refl _ _) | (with_reducible refine Below.drew ?_) | (with_reducible refine Below.alloc ?_ ?hh _; case hh => first | (simp; done) | (simp; omega) | omega) | (with_reducible refine Below.setCell ?_ ?hh _; case hh => first | (simp; done) | (simp; omega) | omega) | refine bstep (by assumption) (by first | (simp; done) | (simp; omega) | omega) ?_), hH.step HX.out⟩, by simp [intOf]; omega⟩
    · go_wp2
      go_returns
      obtain rfl : k = ns.length := by omega
      by_cases hne : ns = []
      · subst hne
        exact ⟨⟨_, [], rfl, ⟨_, _, rfl, Nat.le_refl _, by simp, fun _ => rfl, fun h => absurd rfl h⟩, by simp [OwnN]⟩, hb⟩
      · obtain ⟨h1, h2⟩ := hH.done (by unfold maxLen; omega) hne
        exact ⟨⟨_, _, rfl, h1, h2⟩, hb⟩
end Go.Proofs.Ytdkbhoichmcodaa
/- Own text. Steps: how much one weighs (szStep), a new one that is the same (toStep), eqStep at one step twice. -/
namespace Go.Proofs.Ytdkbhoichmcodaa
open Go.RowKit Go.Deep
set_option linter.unusedVariables false
set_option maxHeartbeats 2000000 in
set_option maxRecDepth 100000 in
theorem szStep_any (x : T5) (uc ur : Value) (left : Int) (w : World) (hr : StpIs w uc ur x) (hw : x.wf) (h0 : 0 ≤ left) (h1 : left ≤ 1048576) :
    Calls Try.prog 24 #[(.agg #[.int .i64 x.k, .string x.s, uc, .string x.q, ur]), .int .i64 left] w fun e w' => (∃ z : Int, e = .returned (.int .i64 z) ∧ -1 ≤ z ∧ z ≤ left ∧ (0 ≤ z → z + wtT x = left)) ∧ Below w.heap.size w w' := by
  obtain ⟨_, ws, wc, wq, wr⟩ := hw
  unfold maxLen at ws wq
  obtain ⟨⟨ac, cc, rfl, _, _⟩, ar, cr, rfl, _, _⟩ := hr.shape
  obtain ⟨⟨g, hS⟩, hR⟩ := hr
  unfold wtT
  by_cases hb1 : left - x.s.size < 0
  · go_enter Try.func24, Try.ntmps24
    go_wp2_with fail
    go_returns
    exact ⟨⟨-1, rfl, by omega, by omega, by omega⟩, by repeat (first | exact Below.refl _ _ | refine Below.drew ?_ | refine Below.alloc ?_ (by first | (simp; done) | (simp; omega) | omega) _ | refine Below.setCell ?_ (by first | (simp; done) | (simp; omega) | omega) _ | refine bstep (by assumption) (by first | (simp; done) | (simp; omega) | omega) ?_)⟩
  go_enter Try.func24, Try.ntmps24
  go_wp2_with fail
  refine Calls.mono (szStringS_any (.slice ac x.cs.length cc) x.cs g (left - x.s.size) _ (hS.below ?hb) wc (by omega) (by omega)) ?_
  case hb => repeat (first | exact Below.refl _ _ | refine Below.drew ?_ | refine Below.alloc ?_ (by first | (simp; done) | (simp; omega) | omega) _ | refine Below.setCell ?_ (by first | (simp; done) | (simp; omega) | omega) _ | refine bstep (by assumption) (by first | (simp; done) | (simp; omega) | omega) ?_)
  rintro e w1 ⟨⟨z1, rfl, l1, g1, s1⟩, hb1⟩
  have hz1 := hb1.size
  simp only [World.size_alloc] at hz1
  have qa : w1.cell? ⟨w.heap.size, 3, none⟩ = some (.string x.q) := cell_later hb1 (by go_simp)
  have qb : w1.cell? ⟨w.heap.size, 4, none⟩ = some (.slice ar x.rs.length cr) := cell_later hb1 (by go_simp)
  have bel1 : Below w.heap.size w w1 := by repeat (first | exact Below.refl _ _ | refine Below.drew ?_ | refine Below.alloc ?_ (by first | (simp; done) | (simp; omega) | omega) _ | refine Below.setCell ?_ (by first | (simp; done) | (simp; omega) | omega) _ | refine bstep (by assumption) (by first | (simp; done) | (simp; omega) | omega) ?_)
  clear hb1
  by_cases hn1 : z1 < 0
  · go_wp2_with fail
    go_returns
    exact ⟨⟨-1, rfl, by omega, by omega, by omega⟩, bel1⟩
  have hq1 := s1 (by omega)
  clear s1
  by_cases hb2 : z1 - x.q.size < 0
  · go_wp2_with fail
    go_returns
    exact ⟨⟨-1, rfl, by omega, by omega, by omega⟩, bel1⟩
  go_wp2_with fail
  refine Calls.mono (szRelS_any (.slice ar x.rs.length cr) x.rs (z1 - x.q.size) w1 (hR.below bel1) wr (by omega) (by omega)) ?_
  rintro e w2 ⟨⟨z2, rfl, l2, g2, s2⟩, hb2⟩
  have bel2 : Below w.heap.size w w2 := bel1.trans (hb2.mono bel1.size)
  by_cases hn2 : z2 < 0
  · go_wp2_with fail
    go_returns
    exact ⟨⟨-1, rfl, by omega, by omega, by omega⟩, bel2⟩
  · go_wp2_with fail
    go_returns
    exact ⟨⟨z2, rfl, by omega, by omega, fun h => by have := s2 h; omega⟩, bel2⟩
set_option maxHeartbeats 2000000 in
set_option maxRecDepth 100000 in
theorem eqStep_same (x : T5) (uc ur vc vr : Value) (w : World) (hr : StpIs w uc ur x) (hu : StpIs w vc vr x) :
    Calls Try.prog 28 #[(.agg #[.int .i64 x.k, .string x.s, uc, .string x.q, ur]), (.agg #[.int .i64 x.k, .string x.s, vc, .string x.q, vr])] w fun e w' => e = .returned (.bool true) ∧ Below w.heap.size w w' := by
  obtain ⟨⟨ac, cc, rfl, _, _⟩, ar, cr, rfl, _, _⟩ := hr.shape
  obtain ⟨⟨ac', cc', rfl, _, _⟩, ar', cr', rfl, _, _⟩ := hu.shape
  obtain ⟨⟨g, hS⟩, hR⟩ := hr
  obtain ⟨⟨g', hS'⟩, hR'⟩ := hu
  go_enter Try.func28, Try.ntmps28
  go_wp2_with fail
  refine Calls.mono (eqStringS_same (.slice ac x.cs.length cc) (.slice ac' x.cs.length cc') x.cs g g' _ (hS.below ?hb) (hS'.below ?hc)) ?_
  case hb => repeat (first | exact Below.refl _ _ | refine Below.drew ?_ | refine Below.alloc ?_ (by first | (simp; done) | (simp; omega) | omega) _ | refine Below.setCell ?_ (by first | (simp; done) | (simp; omega) | omega) _ | refine bstep (by assumption) (by first | (simp; done) | (simp; omega) | omega) ?_)
  case hc => repeat (first | exact Below.refl _ _ | refine Below.drew ?_ | refine Below.alloc ?_ (by first | (simp; done) | (simp; omega) | omega) _ | refine Below.setCell ?_ (by first | (simp; done) | (simp; omega) | omega) _ | refine bstep (by assumption) (by first | (simp; done) | (simp; omega) | omega) ?_)
  rintro e w1 ⟨rfl, hb1⟩
  have hz1 := hb1.size
  simp only [World.size_alloc] at hz1
  have qa : w1.cell? ⟨w.heap.size, 3, none⟩ = some (.string x.q) := cell_later hb1 (by go_simp)
  have qb : w1.cell? ⟨w.heap.size, 4, none⟩ = some (.slice ar x.rs.length cr) := cell_later hb1 (by go_simp)
  have qc : w1.cell? ⟨w.heap.size + 1, 3, none⟩ = some (.string x.q) := cell_later hb1 (by go_simp)
  have qd : w1.cell? ⟨w.heap.size + 1, 4, none⟩ = some (.slice ar' x.rs.length cr') := cell_later hb1 (by go_simp)
  have bel1 : Below w.heap.size w w1 := by repeat (first | exact Below.refl _ _ | refine Below.drew ?_ | refine Below.alloc ?_ (by first | (simp; done) | (simp; omega) | omega) _ | refine Below.setCell ?_ (by first | (simp; done) | (simp; omega) | omega) _ | refine bstep (by assumption) (by first | (simp; done) | (simp; omega) | omega) ?_)
  clear hb1
  go_wp2_with fail
  refine Calls.mono (eqRelS_same (.slice ar x.rs.length cr) (.slice ar' x.rs.length cr') x.rs w1 (hR.below bel1) (hR'.below bel1)) ?_
  rintro e w2 ⟨rfl, hb2⟩
  have bel2 : Below w.heap.size w w2 := bel1.trans (hb2.mono bel1.size)
  go_wp2
  go_returns
  exact ⟨rfl, bel2⟩
set_option maxHeartbeats 2000000 in
set_option maxRecDepth 100000 in
theorem toStep_is (x : T5) (uc ur : Value) (w : World) (hr : StpIs w uc ur x) (hn : wtT x ≤ 1048576) :
    Calls Try.prog 26 #[(.agg #[.int .i64 x.k, .string x.s, uc, .string x.q, ur])] w fun e w' => (∃ vc vr, e = .returned (.agg #[.int .i64 x.k, .string x.s, vc, .string x.q, vr]) ∧ StpIs w' vc vr x) ∧ Below w.heap.size w w' := by
  unfold wtT at hn
  obtain ⟨⟨ac, cc, rfl, _, _⟩, ar, cr, rfl, _, _⟩ := hr.shape
  obtain ⟨⟨g, hS⟩, hR⟩ := hr
  go_enter Try.func26, Try.ntmps26
  go_wp2_with fail
  refine Calls.mono (toStringS_any (.slice ac x.cs.length cc) x.cs g _ (hS.below ?hb) (by omega)) ?_
  case hb => repeat (first | (with_reducible exact Below.refl _ _) | (with_reducible refine Below.drew ?_) | (with_reducible refine Below.alloc ?_ ?hh _; case hh => first | (simp; done) | (simp; omega) | omega) | (with_reducible refine Below.setCell ?_ ?hh _; case hh => first | (simp; done) | (simp; omega) | omega) | refine bstep (by assumption) (by first | (simp; done) | (simp; omega) | omega) ?_)
  rintro e w1 ⟨⟨u1, g1, rfl, hS1, hO1⟩, hb1⟩
  have hz1 := hb1.size
  try simp only [World.size_alloc] at hz1 hO1
  try simp only [World.size_setCell] at hz1 hO1
  have hf1 := (bcell hb1).2
  obtain ⟨a1, c1, rfl, _, _⟩ := hS1.shape
  have hy0_1 : w.heap.size < w1.heap.size := by omega
  have hy1_1 : w.heap.size + 1 < w1.heap.size := by omega
  have hy2_1 : w.heap.size + 1 + 1 < w1.heap.size := by omega
  have c3_1 : w1.cell? ⟨w.heap.size, 3, none⟩ = some (.string x.q) := cell_later hb1 (by go_simp)
  have c4_1 : w1.cell? ⟨w.heap.size, 4, none⟩ = some (.slice ar x.rs.length cr) := cell_later hb1 (by go_simp)
  have r0_1 : w1.cell? ⟨w.heap.size + 1, 0, none⟩ = some (.int .i64 0) := cell_later hb1 (by go_simp)
  have r1_1 : w1.cell? ⟨w.heap.size + 1, 1, none⟩ = some (.string ⟨#[]⟩) := cell_later hb1 (by go_simp)
  have r2_1 : w1.cell? ⟨w.heap.size + 1, 2, none⟩ = some (.slice none 0 0) := cell_later hb1 (by go_simp)
  have r3_1 : w1.cell? ⟨w.heap.size + 1, 3, none⟩ = some (.string ⟨#[]⟩) := cell_later hb1 (by go_simp)
  have r4_1 : w1.cell? ⟨w.heap.size + 1, 4, none⟩ = some (.slice none 0 0) := cell_later hb1 (by go_simp)
  have t0_1 : w1.cell? ⟨w.heap.size + 1 + 1, 0, none⟩ = some (.int .i64 x.k) := cell_later hb1 (by go_simp)
  have t1_1 : w1.cell? ⟨w.heap.size + 1 + 1, 1, none⟩ = some (.string x.s) := cell_later hb1 (by go_simp)
  have t2_1 : w1.cell? ⟨w.heap.size + 1 + 1, 2, none⟩ = some (.slice none 0 0) := cell_later hb1 (by go_simp)
  have t3_1 : w1.cell? ⟨w.heap.size + 1 + 1, 3, none⟩ = some (.string ⟨#[]⟩) := cell_later hb1 (by go_simp)
  have t4_1 : w1.cell? ⟨w.heap.size + 1 + 1, 4, none⟩ = some (.slice none 0 0) := cell_later hb1 (by go_simp)
  have bel1 : Below w.heap.size w w1 := by repeat (first | (with_reducible exact Below.refl _ _) | (with_reducible refine Below.drew ?_) | (with_reducible refine Below.alloc ?_ ?hh _; case hh => first | (simp; done) | (simp; omega) | omega) | (with_reducible refine Below.setCell ?_ ?hh _; case hh => first | (simp; done) | (simp; omega) | omega) | refine bstep (by assumption) (by first | (simp; done) | (simp; omega) | omega) ?_)
  clear hb1
  go_wp2_with fail
  refine Calls.mono (toRelS_F (.slice ar x.rs.length cr) x.rs _ (hR.below ?hb) (by omega)) ?_
  case hb => repeat (first | (with_reducible exact bel1) | (with_reducible refine Below.setCell ?_ ?hh _; case hh => (simp; try omega)))
  rintro e w2 ⟨⟨u2, F2, rfl, hR2, hO2⟩, hb2⟩
  have hS2 := StrsF.below (StrsF.keep (w' := ((w1.setCell ⟨w.heap.size + 1 + 1, 2, none⟩ (.slice a1 x.cs.length c1)).setCell ⟨w.heap.size + 1 + 1, 3, none⟩ (.string x.q))) hS1 (by simp) (fun b hb => by have := (hO1.2 b hb).1; repeat rw [Below.heap_setCell _ _ _ _ (by simp; try omega)])) hb2
  have hg1 : ∀ b ∈ g1, b < w1.heap.size := hS1.lt
  have hz2 := hb2.size
  try simp only [World.size_alloc] at hz2 hO2
  try simp only [World.size_setCell] at hz2 hO2
  have hf2 := (bcell hb2).2
  obtain ⟨a2, l2, c2, rfl⟩ := hR2.is.shape
  have hy0_2 : w.heap.size < w2.heap.size := by omega
  have hy1_2 : w.heap.size + 1 < w2.heap.size := by omega
  have hy2_2 : w.heap.size + 1 + 1 < w2.heap.size := by omega
  have r0_2 : w2.cell? ⟨w.heap.size + 1, 0, none⟩ = some (.int .i64 0) := cell_later hb2 (by go_simp)
  have r1_2 : w2.cell? ⟨w.heap.size + 1, 1, none⟩ = some (.string ⟨#[]⟩) := cell_later hb2 (by go_simp)
  have r2_2 : w2.cell? ⟨w.heap.size + 1, 2, none⟩ = some (.slice none 0 0) := cell_later hb2 (by go_simp)
  have r3_2 : w2.cell? ⟨w.heap.size + 1, 3, none⟩ = some (.string ⟨#[]⟩) := cell_later hb2 (by go_simp)
  have r4_2 : w2.cell? ⟨w.heap.size + 1, 4, none⟩ = some (.slice none 0 0) := cell_later hb2 (by go_simp)
  have t0_2 : w2.cell? ⟨w.heap.size + 1 + 1, 0, none⟩ = some (.int .i64 x.k) := cell_later hb2 (by go_simp)
  have t1_2 : w2.cell? ⟨w.heap.size + 1 + 1, 1, none⟩ = some (.string x.s) := cell_later hb2 (by go_simp)
  have t2_2 : w2.cell? ⟨w.heap.size + 1 + 1, 2, none⟩ = some (.slice a1 x.cs.length c1) := cell_later hb2 (by go_simp)
  have t3_2 : w2.cell? ⟨w.heap.size + 1 + 1, 3, none⟩ = some (.string x.q) := cell_later hb2 (by go_simp)
  have t4_2 : w2.cell? ⟨w.heap.size + 1 + 1, 4, none⟩ = some (.slice none 0 0) := cell_later hb2 (by go_simp)
  have bel2 : Below w.heap.size w w2 := by
    refine Below.trans ?_ (hb2.mono ?_)
    · repeat (first | (with_reducible exact bel1) | (with_reducible refine Below.setCell ?_ ?hh _; case hh => (simp; try omega)))
    · simp; omega
  clear hb2
  go_wp2
  refine bodyPost_ret (v := .agg #[.int .i64 x.k, .string x.s, .slice a1 x.cs.length c1, .string x.q, .slice a2 l2 c2]) (by simp [results, Try.results26, go_sem, *]) rfl ⟨⟨_, _, rfl, ⟨g1, ?_⟩, ?_⟩, ?_⟩
  · refine hS2.keep (by simp) fun b hb => ?_
    have := (hO1.2 b hb).1
    iterate 6 rw [Below.heap_setCell _ _ _ _ (by simp; try omega)]
  · refine (hR2.keep (by simp) fun b hb => ?_).is
    have := hO2.2.1 b hb
    iterate 6 rw [Below.heap_setCell _ _ _ _ (by simp; try omega)]
  · repeat (first | (with_reducible exact bel2) | (with_reducible refine Below.setCell ?_ ?hh _; case hh => (simp; try omega)))
end Go.Proofs.Ytdkbhoichmcodaa
