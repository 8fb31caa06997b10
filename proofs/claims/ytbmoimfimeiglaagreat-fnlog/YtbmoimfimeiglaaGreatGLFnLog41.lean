/- Own texts, joined: contracts that the law's proof goes by. -/
import Derived.Test.YtbmoimfimeiglaaGreatGLFnLog40
import Derived.Test.YtbmoimfimeiglaaGreatGLFnLog18
import Derived.Handy
import Derived.Deep.RegionHeld3
import Derived.Test.YtbmoimfimeiglaaGreatGLFnLog9
import Derived.Test.YtbmoimfimeiglaaGreatGLFnLog7
import Derived.Test.YtbmoimfimeiglaaGreatGLFnLog17
import Derived.Test.YtbmoimfimeiglaaGreatGLFnLog5
import Derived.BigQuiet
namespace Go.Proofs.YtbmoimfimeiglaaGreat
open Go.RowKit Go.Deep Go.ChangeShapes Go.WideShapes
set_option linter.unusedVariables false
def StpF (w : World) (u : Value × Value) (x : T5) (g : List Nat) : Prop := ∃ g1 g2, g = g1 ++ g2 ∧ StrsF w u.1 x.cs g1 ∧ RelsF w u.2 x.rs g2
section
variable {w w' : World} {u : Value × Value} {x : T5} {g : List Nat}
theorem StpF.is (h : StpF w u x g) : StpIs w u.1 u.2 x := by
  obtain ⟨g1, g2, _, h1, h2⟩ := h
  exact ⟨⟨g1, h1⟩, h2.is⟩
theorem StpF.lt (h : StpF w u x g) : ∀ b ∈ g, b < w.heap.size := by
  obtain ⟨g1, g2, rfl, h1, h2⟩ := h
  intro b hb
  rcases List.mem_append.1 hb with hb | hb
  · exact h1.lt b hb
  · exact h2.lt b hb
theorem StpF.keep (h : StpF w u x g) (hs : w.heap.size ≤ w'.heap.size) (hg : ∀ b ∈ g, w'.heap[b]? = w.heap[b]?) : StpF w' u x g := by
  obtain ⟨g1, g2, rfl, h1, h2⟩ := h
  exact ⟨g1, g2, rfl, h1.keep hs fun b hb => hg b (List.mem_append_left _ hb), h2.keep hs fun b hb => hg b (List.mem_append_right _ hb)⟩
theorem StpF.below (h : StpF w u x g) (hb : Below w.heap.size w w') : StpF w' u x g := h.keep hb.size fun b hg => hb.block b (h.lt b hg)
theorem StpOwn.stpF {N : Nat} {uc ur : Value} {F : List Nat} (h : StpOwn w N uc ur x g F) : StpF w (uc, ur) x (g ++ F) ∧ Own w N (g ++ F) := by
  refine ⟨⟨g, F, rfl, h.1, h.2.1⟩, ?_, ?_, ?_⟩
  · rw [List.nodup_append]
    exact ⟨h.2.2.1.1, h.2.2.2.1.1, fun a ha b hb e => h.2.2.2.2 a ha (e ▸ hb)⟩
  · intro b hb
    rcases List.mem_append.1 hb with hb | hb
    · exact h.2.2.1.2.1 b hb
    · exact h.2.2.2.1.2.1 b hb
  · intro b hb
    rcases List.mem_append.1 hb with hb | hb
    · exact h.2.2.1.2.2 b hb
    · exact h.2.2.2.1.2.2 b hb
end
def TLies (w : World) (b o : Nat) (ts : List T5) : Prop :=
  ∀ i x, ts[i]? = some x → ∃ u : Value × Value, w.cell? ⟨b, o + i * 5, none⟩ = some (.int .i64 x.k) ∧ w.cell? ⟨b, o + i * 5 + 1, none⟩ = some (.string x.s) ∧ w.cell? ⟨b, o + i * 5 + 2, none⟩ = some u.1 ∧ w.cell? ⟨b, o + i * 5 + 3, none⟩ = some (.string x.q) ∧ w.cell? ⟨b, o + i * 5 + 4, none⟩ = some u.2 ∧ StpIs w u.1 u.2 x
def StsIs (w : World) (v : Value) (ts : List T5) : Prop :=
  ∃ a c, v = .slice a ts.length c ∧ ts.length ≤ c ∧ c ≤ maxLen ∧ (ts ≠ [] → ∃ b o, a = some ⟨b, o, none⟩ ∧ b < w.heap.size ∧ TLies w b o ts)
theorem StsIs.below {w w' : World} {v : Value} {ts : List T5} (h : StsIs w v ts) (hb : Below w.heap.size w w') : StsIs w' v ts := by
  obtain ⟨a, c, rfl, hl, hc, h⟩ := h
  refine ⟨a, c, rfl, hl, hc, fun hne => ?_⟩
  obtain ⟨b, o, rfl, hlt, hL⟩ := h hne
  refine ⟨b, o, rfl, Nat.lt_of_lt_of_le hlt hb.size, fun i x hx => ?_⟩
  obtain ⟨u, a0, a1, a2, a3, a4, a5⟩ := hL i x hx
  have hbb := hb.block b hlt
  exact ⟨u, (cell_blk hbb).trans a0, (cell_blk hbb).trans a1, (cell_blk hbb).trans a2, (cell_blk hbb).trans a3, (cell_blk hbb).trans a4, a5.below hb⟩
def TLF (w : World) (b o : Nat) (rs : List T5) (G : List (List Nat)) : Prop :=
  ∀ i x g, rs[i]? = some x → G[i]? = some g → ∃ u : Value × Value, w.cell? ⟨b, o + i * 5, none⟩ = some (.int .i64 x.k) ∧ w.cell? ⟨b, o + i * 5 + 1, none⟩ = some (.string x.s) ∧ w.cell? ⟨b, o + i * 5 + 2, none⟩ = some u.1 ∧ w.cell? ⟨b, o + i * 5 + 3, none⟩ = some (.string x.q) ∧ w.cell? ⟨b, o + i * 5 + 4, none⟩ = some u.2 ∧ StpF w u x g
def StsF (w : World) (v : Value) (rs : List T5) (F : List Nat) : Prop :=
  ∃ (a : Option Addr) (c : Nat) (G : List (List Nat)), v = .slice a rs.length c ∧ rs.length ≤ c ∧ c ≤ maxLen ∧ (a = none → c = 0) ∧ G.length = rs.length ∧ (rs = [] → F = []) ∧
    (rs ≠ [] → ∃ b o, a = some ⟨b, o, none⟩ ∧ b < w.heap.size ∧ F = b :: G.flatten ∧ TLF w b o rs G)
theorem StsF.is {w : World} {v : Value} {rs : List T5} {F : List Nat} (h : StsF w v rs F) : StsIs w v rs := by
  obtain ⟨a, c, G, rfl, hl, hc, _, hG, _, h⟩ := h
  refine ⟨a, c, rfl, hl, hc, fun hne => ?_⟩
  obtain ⟨b, o, rfl, hlt, _, hL⟩ := h hne
  refine ⟨b, o, rfl, hlt, fun i x hx => ?_⟩
  have hi : i < rs.length := (List.getElem?_eq_some_iff.1 hx).1
  have hi' : i < G.length := by omega
  obtain ⟨u, h0, h1, h2, h3, h4, h5⟩ := hL i x G[i] hx (by simp)
  exact ⟨u, h0, h1, h2, h3, h4, h5.is⟩
theorem StsF.lt {w : World} {v : Value} {rs : List T5} {F : List Nat} (h : StsF w v rs F) : ∀ b ∈ F, b < w.heap.size := by
  obtain ⟨a, c, G, rfl, hl, hc, _, hG, h0, h⟩ := h
  intro x hx
  by_cases hne : rs = []
  · rw [h0 hne] at hx; cases hx
  obtain ⟨b, o, rfl, hlt, rfl, hL⟩ := h hne
  rcases List.mem_cons.1 hx with rfl | hx
  · exact hlt
  obtain ⟨g, hg, hxg⟩ := List.mem_flatten.1 hx
  obtain ⟨i, hi, rfl⟩ := List.mem_iff_getElem.1 hg
  have hi' : i < rs.length := by omega
  obtain ⟨u, _, _, _, _, _, hk⟩ := hL i rs[i] G[i] (by simp) (by simp)
  exact hk.lt x hxg
theorem TLF.keep {w w' : World} {b o : Nat} {rs : List T5} {G : List (List Nat)} (h : TLF w b o rs G) (hs : w.heap.size ≤ w'.heap.size) (hb : w'.heap[b]? = w.heap[b]?) (hF : ∀ x ∈ G.flatten, w'.heap[x]? = w.heap[x]?) : TLF w' b o rs G := fun i x g hx hg => by
  obtain ⟨u, a0, a1, a2, a3, a4, a5⟩ := h i x g hx hg
  exact ⟨u, (cell_blk hb).trans a0, (cell_blk hb).trans a1, (cell_blk hb).trans a2, (cell_blk hb).trans a3, (cell_blk hb).trans a4, a5.keep hs fun y hy => hF y (List.mem_flatten.2 ⟨g, List.mem_of_getElem? hg, hy⟩)⟩
theorem StsF.keep {w w' : World} {v : Value} {rs : List T5} {F : List Nat} (h : StsF w v rs F) (hs : w.heap.size ≤ w'.heap.size) (hF : ∀ b ∈ F, w'.heap[b]? = w.heap[b]?) : StsF w' v rs F := by
  obtain ⟨a, c, G, rfl, hl, hc, hz, hG, h0, h⟩ := h
  refine ⟨a, c, G, rfl, hl, hc, hz, hG, h0, fun hne => ?_⟩
  obtain ⟨b, o, rfl, hlt, rfl, hL⟩ := h hne
  exact ⟨b, o, rfl, Nat.lt_of_lt_of_le hlt hs, rfl, hL.keep hs (hF b List.mem_cons_self) fun x hx => hF x (List.mem_cons_of_mem _ hx)⟩
theorem StsF.below {w w' : World} {v : Value} {rs : List T5} {F : List Nat} (h : StsF w v rs F) (hb : Below w.heap.size w w') : StsF w' v rs F := h.keep hb.size fun b hF => hb.block b (h.lt b hF)
theorem StsF.pick {w : World} {v : Value} {rs : List T5} {F : List Nat} (h : StsF w v rs F) :
    ∃ a c b o G, v = .slice a rs.length c ∧ rs.length ≤ c ∧ c ≤ maxLen ∧ (a = none → c = 0) ∧ G.length = rs.length ∧ (rs = [] → F = []) ∧ TLF w b o rs G ∧ ∀ n, n < rs.length → a = some ⟨b, o, none⟩ ∧ b < w.heap.size ∧ F = b :: G.flatten := by
  obtain ⟨a, c, G, rfl, hl, hc, hz, hG, h0, h⟩ := h
  by_cases hne : rs = []
  · exact ⟨a, c, 0, 0, G, rfl, hl, hc, hz, hG, h0, fun i x g hx => by rw [hne] at hx; simp at hx, fun k hk => by rw [hne] at hk; simp at hk⟩
  · obtain ⟨b, o, rfl, hlt, hF, hL⟩ := h hne
    exact ⟨_, c, b, o, G, rfl, hl, hc, hz, hG, h0, hL, fun _ _ => ⟨rfl, hlt, hF⟩⟩
theorem TLF.at {w w' : World} {b o : Nat} {rs : List T5} {G : List (List Nat)} (h : TLF w b o rs G) (hG : G.length = rs.length) (hlt : b < w.heap.size) (hb : Below w.heap.size w w') {k : Nat} (hk : k < rs.length) :
    ∃ x u g, rs[k]? = some x ∧ w'.cell? ⟨b, o + k * 5, none⟩ = some (.int .i64 x.k) ∧ w'.cell? ⟨b, o + k * 5 + 1, none⟩ = some (.string x.s) ∧ w'.cell? ⟨b, o + k * 5 + 2, none⟩ = some u.1 ∧ w'.cell? ⟨b, o + k * 5 + 3, none⟩ = some (.string x.q) ∧ w'.cell? ⟨b, o + k * 5 + 4, none⟩ = some u.2 ∧ StpF w' u x g ∧ b < w'.heap.size := by
  obtain ⟨u, h0, h1, h2, h3, h4, h5⟩ := h k rs[k] (G[k]'(by omega)) (by simp [hk]) (by simp)
  have hbb := hb.block b hlt
  exact ⟨rs[k], u, _, by simp [hk], (cell_blk hbb).trans h0, (cell_blk hbb).trans h1, (cell_blk hbb).trans h2, (cell_blk hbb).trans h3, (cell_blk hbb).trans h4, h5.below hb, Nat.lt_of_lt_of_le hlt hb.size⟩
def rct (us : List (Value × Value)) (rs : List T5) : List Value := (us.zip rs).flatMap fun p => [.int .i64 p.2.k, .string p.2.s, p.1.1, .string p.2.q, p.1.2]
theorem rct_push {us : List (Value × Value)} {rs : List T5} (h : us.length = rs.length) (u : Value × Value) (x : T5) : rct (us ++ [u]) (rs ++ [x]) = rct us rs ++ [.int .i64 x.k, .string x.s, u.1, .string x.q, u.2] := by
  unfold rct
  rw [List.zip_append h, List.flatMap_append]
  simp
theorem rct_at {us : List (Value × Value)} {rs : List T5} (h : us.length = rs.length) : ∀ {i : Nat} {u : Value × Value} {x : T5}, us[i]? = some u → rs[i]? = some x → (rct us rs)[i * 5]? = some (.int .i64 x.k) ∧ (rct us rs)[i * 5 + 1]? = some (.string x.s) ∧ (rct us rs)[i * 5 + 2]? = some u.1 ∧ (rct us rs)[i * 5 + 3]? = some (.string x.q) ∧ (rct us rs)[i * 5 + 4]? = some u.2 := by
  induction us generalizing rs with
  | nil => intro i u x hu; simp at hu
  | cons v us ih =>
    cases rs with
    | nil => simp at h
    | cons c rs =>
      intro i u x hu hx
      have e : rct (v :: us) (c :: rs) = .int .i64 c.k :: .string c.s :: v.1 :: .string c.q :: v.2 :: rct us rs := by unfold rct; rw [List.zip_cons_cons, List.flatMap_cons]; rfl
      rw [e]
      cases i with
      | zero => simp at hu hx; subst hu hx; simp
      | succ i =>
        have := ih (rs := rs) (by simpa using h) (i := i) (u := u) (x := x) (by simpa using hu) (by simpa using hx)
        rw [show (i + 1) * 5 = i * 5 + 1 + 1 + 1 + 1 + 1 from by omega]
        simpa using this
structure StsOwn (w : World) (N : Nat) (v : Value) (rs : List T5) (us : List (Value × Value)) (G : List (List Nat)) : Prop where
  own : w.ownsRow N 27 5 v rs.length (rct us rs)
  ul : us.length = rs.length
  gl : G.length = rs.length
  row : ∀ (i : Nat) (x : T5) (u : Value × Value) (g : List Nat), rs[i]? = some x → us[i]? = some u → G[i]? = some g → StpF w u x g
  free : Own w N G.flatten
  out : ∀ b, v.ownBlock = some b → b ∉ G.flatten
section
variable {w w' : World} {N : Nat} {v : Value} {rs : List T5} {us : List (Value × Value)} {G : List (List Nat)}
theorem StsOwn.empty' {w : World} {N : Nat} (hN : N = w.heap.size) : StsOwn (w.alloc (.cells #[] 27)) N (.slice (some ⟨N, 0, none⟩) 0 0) [] [] [] := by
  subst hN
  exact ⟨⟨by simp [rct], .inr ⟨w.heap.size, 0, #[], rfl, Nat.le_refl _, heap_alloc_new w _, Nat.le_refl _, by simp, by simp, by simp [rct]⟩⟩, rfl, rfl, fun i x u g hx => by simp at hx, by simp [Own, Free], fun b _ => by simp⟩
theorem StsOwn.lt (h : StsOwn w N v rs us G) : ∀ b ∈ G.flatten, b < w.heap.size := by
  intro b hb
  obtain ⟨g, hg, hbg⟩ := List.mem_flatten.1 hb
  obtain ⟨i, hi, rfl⟩ := List.mem_iff_getElem.1 hg
  have h1 := h.gl
  have h2 := h.ul
  have hi1 : i < rs.length := by omega
  have hi2 : i < us.length := by omega
  exact (h.row i rs[i] us[i] G[i] (by simp) (by simp) (by simp)).lt b hbg
theorem StsOwn.keep (h : StsOwn w N v rs us G) (hs : w.heap.size ≤ w'.heap.size) (hb : ∀ b, N ≤ b → b < w.heap.size → w'.heap[b]? = w.heap[b]?) : StsOwn w' N v rs us G := by
  have hk : ∀ b ∈ G.flatten, w'.heap[b]? = w.heap[b]? := fun b hbG => hb b (h.free.2.1 b hbG) (h.lt b hbG)
  refine ⟨ownsRow_keep h.own fun b hv => hb b (ownsRow_lt h.own b hv).1 (ownsRow_lt h.own b hv).2, h.ul, h.gl, fun i x u g hx hu hg => (h.row i x u g hx hu hg).keep hs fun b hbg => hk b (List.mem_flatten.2 ⟨g, List.mem_of_getElem? hg, hbg⟩), h.free.keep hk, h.out⟩
theorem StsOwn.below (h : StsOwn w N v rs us G) (hb : Below w.heap.size w w') : StsOwn w' N v rs us G := h.keep hb.size fun b _ hlt => hb.block b hlt
theorem StsOwn.push {v' : Value} {u : Value × Value} {x : T5} {g : List Nat} (h : StsOwn w N v rs us G) (hR : StpF w u x g) (hO : Own w N g) (hd1 : ∀ b ∈ G.flatten, b ∉ g) (hd2 : ∀ b, v.ownBlock = some b → b ∉ g)
    (ho : w'.ownsRow N 27 5 v' (rs.length + 1) (rct us rs ++ [.int .i64 x.k, .string x.s, u.1, .string x.q, u.2])) (hg : w.grownBy w' v.ownBlock) (hat : ∀ b, v'.ownBlock = some b → v.ownBlock = some b ∨ w.heap.size ≤ b) :
    StsOwn w' N v' (rs ++ [x]) (us ++ [u]) (G ++ [g]) := by
  have hG := h.lt
  have hm : ∀ b ∈ (G ++ [g]).flatten, b ∈ G.flatten ∨ b ∈ g := by intro b hb; simpa using hb
  have hlt : ∀ b ∈ (G ++ [g]).flatten, b < w.heap.size := fun b hb => (hm b hb).elim (hG b) (hR.lt b)
  have hne : ∀ b ∈ (G ++ [g]).flatten, some b ≠ v.ownBlock := fun b hb e => (hm b hb).elim (h.out b e.symm) (hd2 b e.symm)
  have hk : ∀ b ∈ (G ++ [g]).flatten, w'.heap[b]? = w.heap[b]? := fun b hb => hg.block b (hlt b hb) (hne b hb)
  refine ⟨?_, by simp [h.ul], by simp [h.gl], fun i y z q hy hz hq => ?_, ?_, fun b hb => ?_⟩
  · rw [rct_push h.ul]; simpa using ho
  · by_cases hi : i < rs.length
    · rw [List.getElem?_append_left hi] at hy
      rw [List.getElem?_append_left (by rw [h.ul]; exact hi)] at hz
      rw [List.getElem?_append_left (by rw [h.gl]; exact hi)] at hq
      exact (h.row i y z q hy hz hq).keep hg.size fun b hb => hk b (by simp; exact .inl ⟨q, List.mem_of_getElem? hq, hb⟩)
    · have hl : i < (rs ++ [x]).length := (List.getElem?_eq_some_iff.1 hy).1
      obtain rfl : i = rs.length := by simp at hl; omega
      rw [List.getElem?_append_right (Nat.le_refl _)] at hy
      rw [List.getElem?_append_right (by rw [h.ul]; exact Nat.le_refl _)] at hz
      rw [List.getElem?_append_right (by rw [h.gl]; exact Nat.le_refl _)] at hq
      simp [h.ul, h.gl] at hy hz hq
      subst hy hz hq
      exact hR.keep hg.size fun b hb => hk b (by simp; exact .inr hb)
  · refine Own.keep (w := w) ⟨?_, fun b hb => (hm b hb).elim (h.free.2.1 b) (hO.2.1 b), fun b hb => (hm b hb).elim (h.free.2.2 b) (hO.2.2 b)⟩ hk
    rw [List.flatten_append, List.nodup_append]
    refine ⟨h.free.1, by simpa using hO.1, fun a ha b hb => ?_⟩
    rintro rfl
    exact hd1 a ha (by simpa using hb)
  · intro hx
    rcases hat b hb with e | e
    · exact hne b hx e.symm
    · have := hlt b hx; omega
theorem StsOwn.shape (h : StsOwn w N v rs us G) : ∃ a c, v = .slice a rs.length c := by
  rcases h.own.2 with ⟨rfl, h0⟩ | ⟨g, cap, cur, hv, _⟩
  · exact ⟨none, 0, by rw [h0]⟩
  · exact ⟨_, cap, hv⟩
theorem StsOwn.stsF (h : StsOwn w N v rs us G) : ∃ F, StsF w v rs F ∧ Own w N F := by
  have hlt := ownsRow_lt h.own
  have hGl := h.lt
  by_cases hne : rs = []
  · refine ⟨[], ?_, by simp [Own, Free]⟩
    have hgl := h.gl
    subst hne
    rcases h.own.2 with ⟨rfl, _⟩ | ⟨g, cap, cur, rfl, _, _, hn, hm, _⟩
    · exact ⟨none, 0, G, rfl, Nat.le_refl _, by simp, fun _ => rfl, hgl, fun _ => rfl, fun x => absurd rfl x⟩
    · exact ⟨_, cap, G, rfl, hn, hm, (fun x => by cases x), hgl, fun _ => rfl, fun x => absurd rfl x⟩
  have hp : 0 < rs.length := List.length_pos_iff.2 hne
  obtain ⟨hl, ho⟩ := h.own
  rcases ho with ⟨_, h0⟩ | ⟨g, cap, cur, rfl, hg, hc, hn, hm, hs, ht⟩
  · omega
  have hgo : g ∉ G.flatten := h.out g rfl
  refine ⟨g :: G.flatten, ⟨_, cap, G, rfl, hn, hm, (fun x => by cases x), h.gl, fun x => absurd x hne, fun _ => ⟨g, 0, rfl, (hlt g rfl).2, rfl, fun i x q hx hq => ?_⟩⟩, List.nodup_cons.2 ⟨hgo, h.free.1⟩, fun b hb => ?_, fun b hb o => ?_⟩
  · have hi : i < rs.length := (List.getElem?_eq_some_iff.1 hx).1
    have hiu : i < us.length := by rw [h.ul]; exact hi
    obtain ⟨e0, e1, e2, e3, e4⟩ := rct_at h.ul (i := i) (u := us[i]) (x := x) (by simp) hx
    have get : ∀ j u, j < rs.length * 5 → (rct us rs)[j]? = some u → w.cell? ⟨g, j, none⟩ = some u := by
      intro j u hj hu
      simp only [World.cell?, hc]
      rw [← ht, List.getElem?_take, if_pos hj, Array.getElem?_toList] at hu
      simpa using hu
    exact ⟨us[i], by rw [Nat.zero_add]; exact get _ _ (by omega) e0, by rw [Nat.zero_add]; exact get _ _ (by omega) e1, by rw [Nat.zero_add]; exact get _ _ (by omega) e2, by rw [Nat.zero_add]; exact get _ _ (by omega) e3, by rw [Nat.zero_add]; exact get _ _ (by omega) e4, h.row i x us[i] q hx (by simp) hq⟩
  · rcases List.mem_cons.1 hb with rfl | hb
    · exact hg
    · exact h.free.2.1 b hb
  · rcases List.mem_cons.1 hb with rfl | hb
    · simp [World.frozen?, hc]
    · exact h.free.2.2 b hb o
end
end Go.Proofs.YtbmoimfimeiglaaGreat
namespace Go.Proofs.YtbmoimfimeiglaaGreat
open Go.RowKit Go.Deep
set_option linter.unusedVariables false
theorem StsIs.pick {w : World} {v : Value} {ts : List T5} (h : StsIs w v ts) : ∃ a c b o, v = .slice a ts.length c ∧ ts.length ≤ c ∧ c ≤ maxLen ∧ ∀ k, k < ts.length → a = some ⟨b, o, none⟩ ∧ b < w.heap.size ∧ TLies w b o ts := by
  obtain ⟨a, c, rfl, hl, hc, h⟩ := h
  by_cases hne : ts = []
  · exact ⟨a, c, 0, 0, rfl, hl, hc, fun k hk => by rw [hne] at hk; simp at hk⟩
  · obtain ⟨b, o, h⟩ := h hne
    exact ⟨a, c, b, o, rfl, hl, hc, fun _ _ => h⟩
theorem TLies.at {w w' : World} {b o : Nat} {ts : List T5} (h : TLies w b o ts) (hlt : b < w.heap.size) (hb : Below w.heap.size w w') {k : Nat} (hk : k < ts.length) :
    ∃ (x : T5) (u : Value × Value), ts[k]? = some x ∧ w'.cell? ⟨b, o + k * 5, none⟩ = some (.int .i64 x.k) ∧ w'.cell? ⟨b, o + k * 5 + 1, none⟩ = some (.string x.s) ∧ w'.cell? ⟨b, o + k * 5 + 2, none⟩ = some u.1 ∧ w'.cell? ⟨b, o + k * 5 + 3, none⟩ = some (.string x.q) ∧ w'.cell? ⟨b, o + k * 5 + 4, none⟩ = some u.2 ∧ StpIs w' u.1 u.2 x ∧ b < w'.heap.size := by
  obtain ⟨u, a0, a1, a2, a3, a4, a5⟩ := h k ts[k] (by simp [hk])
  have hbb := hb.block b hlt
  exact ⟨ts[k], u, by simp [hk], (cell_blk hbb).trans a0, (cell_blk hbb).trans a1, (cell_blk hbb).trans a2, (cell_blk hbb).trans a3, (cell_blk hbb).trans a4, a5.below hb, Nat.lt_of_lt_of_le hlt hb.size⟩
end Go.Proofs.YtbmoimfimeiglaaGreat
namespace Go.Proofs.YtbmoimfimeiglaaGreat
open Go.RowKit Go.Deep
set_option linter.unusedVariables false
set_option maxHeartbeats 2000000 in
set_option maxRecDepth 100000 in
theorem sameTexts_any (v u : Value) (ns : List ByteArray) (g g' : List Nat) (w : World) (hr : StrsF w v ns g) (hu : StrsF w u ns g') :
    Calls Tryz.prog 41 #[v, u] w fun e w' => e = .returned (.bool true) ∧ Below w.heap.size w w' := by
  obtain ⟨a, c, b, o, rfl, hl, hc, _, ha⟩ := hr.pick
  obtain ⟨a', c', b', o', rfl, hl', hc', _, ha'⟩ := hu.pick
  unfold maxLen at hc hc'
  clear hr hu
  go_enter Tryz.func41, Tryz.ntmps41
  go_wp2
  go_loopw [5] (fun i wr => ∃ k : Nat, k ≤ ns.length ∧ i = .int .i64 k ∧ Below w.heap.size w wr) (fun i _ => ns.length - (intOf i).toNat)
  case atStart => exact ⟨0, Nat.zero_le _, rfl, by go_grown⟩
  case round =>
    obtain ⟨k, hk, rfl, hb⟩ := hrel
    by_cases hlt : k < ns.length
    · have hzb := hb.size
      obtain ⟨rfl, hblt, _, hL⟩ := ha k hlt
      obtain ⟨rfl, hblt', _, hL'⟩ := ha' k hlt
      obtain ⟨x, hx⟩ : ∃ x, ns[k]? = some x := ⟨ns[k], by simp [hlt]⟩
      have c0 := (cell_blk (o := o + k) (hb.block b hblt)).trans (hL k x hx)
      have c1 := (cell_blk (o := o' + k) (hb.block b' hblt')).trans (hL' k x hx)
      have hbr : b < wr.heap.size := by omega
      have hbr' : b' < wr.heap.size := by omega
      clear ha ha' hL hL' hx
      go_wp2_with fail
      go_quiet (fail)
      go_wp2
      go_roundw
      case rel => exact ⟨k + 1, hlt, by simp, ⟨hb.os, hb.tape, hb.output, hb.size, hb.block⟩⟩
      case measure => simp [intOf]; omega
    · go_wp2
      go_returns
      exact ⟨rfl, hb⟩
set_option maxHeartbeats 2000000 in
set_option maxRecDepth 100000 in
theorem sameDb_any (v u : Value) (rs : List R3) (w : World) (hr : RelsIs w v rs) (hu : RelsIs w u rs) :
    Calls Tryz.prog 42 #[v, u] w fun e w' => e = .returned (.bool true) ∧ Below w.heap.size w w' := by
  obtain ⟨a, c, b, o, rfl, hl, hc, ha⟩ := hr.pick
  obtain ⟨a', c', b', o', rfl, hl', hc', ha'⟩ := hu.pick
  unfold maxLen at hc hc'
  clear hr hu
  go_enter Tryz.func42, Tryz.ntmps42
  go_wp2
  go_loopw [5] (fun i wr => ∃ k : Nat, k ≤ rs.length ∧ i = .int .i64 k ∧ Below w.heap.size w wr) (fun i _ => rs.length - (intOf i).toNat)
  case atStart => exact ⟨0, Nat.zero_le _, rfl, by go_grown⟩
  case round =>
    obtain ⟨k, hk, rfl, hb⟩ := hrel
    by_cases hlt : k < rs.length
    · have hzb := hb.size
      obtain ⟨rfl, hblt, hL⟩ := ha k hlt
      obtain ⟨rfl, hblt', hL'⟩ := ha' k hlt
      obtain ⟨x, v, hx, c0, c1, c2, hR, hbr⟩ := hL.at hblt hb hlt
      obtain ⟨x', u, hx', c0', c1', c2', hR', hbr'⟩ := hL'.at hblt' hb hlt
      obtain rfl : x = x' := by rw [hx] at hx'; exact Option.some.inj hx'
      clear ha ha' hL hL' hx hx'
      go_wp2_with fail
      go_region_held3 (fun w' => w'.cell? ⟨b, o + k * 3, none⟩ = some (.string x.s) ∧ w'.cell? ⟨b, o + k * 3 + 1, none⟩ = some (.int .i64 x.W) ∧ w'.cell? ⟨b, o + k * 3 + 2, none⟩ = some v ∧ w'.cell? ⟨b', o' + k * 3, none⟩ = some (.string x.s) ∧ w'.cell? ⟨b', o' + k * 3 + 1, none⟩ = some (.int .i64 x.W) ∧ w'.cell? ⟨b', o' + k * 3 + 2, none⟩ = some u) (refine ⟨?_, ?_, ?_, ?_, ?_, ?_⟩ <;> first | (go_simp; done) | (exact cell_later (by assumption) (by go_simp))) (first | (go_at_call 74; refine (sameBag_any x.W v u x.cs _ (hR.below (bela)) (hR'.below (bela))).mono ?_; rintro e w1 ⟨rfl, hb1⟩))
      go_wp2
      go_roundw
      case rel => exact ⟨k + 1, hlt, by simp, bela⟩
      case measure => simp [intOf]; omega
    · go_wp2
      go_returns
      exact ⟨rfl, hb⟩
set_option maxHeartbeats 2000000 in
set_option maxRecDepth 100000 in
theorem sameStep_any (x : T5) (uc ur vc vr : Value) (w : World) (hr : StpIs w uc ur x) (hu : StpIs w vc vr x) :
    Calls Tryz.prog 16 #[(.agg #[.int .i64 x.k, .string x.s, uc, .string x.q, ur]), (.agg #[.int .i64 x.k, .string x.s, vc, .string x.q, vr])] w fun e w' => e = .returned (.bool true) ∧ Below w.heap.size w w' := by
  obtain ⟨⟨ac, cc, rfl, _, _⟩, ar, cr, rfl, _, _⟩ := hr.shape
  obtain ⟨⟨ac', cc', rfl, _, _⟩, ar', cr', rfl, _, _⟩ := hu.shape
  obtain ⟨⟨g, hS⟩, hR⟩ := hr
  obtain ⟨⟨g', hS'⟩, hR'⟩ := hu
  go_enter Tryz.func16, Tryz.ntmps16
  go_wp2_with fail
  refine Calls.mono (sameTexts_any (.slice ac x.cs.length cc) (.slice ac' x.cs.length cc') x.cs g g' _ (hS.below ?hb) (hS'.below ?hc)) ?_
  case hb => exact bela
  case hc => exact bela
  rintro e w1 ⟨rfl, hb1⟩
  have hz1 := hb1.size
  simp only [World.size_alloc] at hz1
  have qa : w1.cell? ⟨w.heap.size, 3, none⟩ = some (.string x.q) := cell_later hb1 (by go_simp)
  have qb : w1.cell? ⟨w.heap.size, 4, none⟩ = some (.slice ar x.rs.length cr) := cell_later hb1 (by go_simp)
  have qc : w1.cell? ⟨w.heap.size + 1, 3, none⟩ = some (.string x.q) := cell_later hb1 (by go_simp)
  have qd : w1.cell? ⟨w.heap.size + 1, 4, none⟩ = some (.slice ar' x.rs.length cr') := cell_later hb1 (by go_simp)
  have bel1 : Below w.heap.size w w1 := bela
  clear hb1
  go_wp2_with fail
  refine Calls.mono (sameDb_any (.slice ar x.rs.length cr) (.slice ar' x.rs.length cr') x.rs w1 (hR.below bel1) (hR'.below bel1)) ?_
  rintro e w2 ⟨rfl, hb2⟩
  have bel2 : Below w.heap.size w w2 := bel1.trans (hb2.mono bel1.size)
  go_wp2
  go_returns
  exact ⟨rfl, bel2⟩
set_option maxHeartbeats 4000000 in
set_option maxRecDepth 100000 in
theorem sameSteps_any (v u : Value) (rs : List T5) (w : World) (hr : StsIs w v rs) (hu : StsIs w u rs) :
    Calls Tryz.prog 14 #[v, u] w fun e w' => e = .returned (.bool true) ∧ Below w.heap.size w w' := by
  obtain ⟨a, c, b, o, rfl, hl, hc, ha⟩ := hr.pick
  obtain ⟨a', c', b', o', rfl, hl', hc', ha'⟩ := hu.pick
  unfold maxLen at hc hc'
  clear hr hu
  go_enter Tryz.func14, Tryz.ntmps14
  go_wp2
  go_loopw [5] (fun i wr => ∃ k : Nat, k ≤ rs.length ∧ i = .int .i64 k ∧ Below w.heap.size w wr) (fun i _ => rs.length - (intOf i).toNat)
  case atStart => exact ⟨0, Nat.zero_le _, rfl, by go_grown⟩
  case round =>
    obtain ⟨k, hk, rfl, hb⟩ := hrel
    by_cases hlt : k < rs.length
    · have hzb := hb.size
      obtain ⟨rfl, hblt, hL⟩ := ha k hlt
      obtain ⟨rfl, hblt', hL'⟩ := ha' k hlt
      obtain ⟨x, ⟨v1, v2⟩, hx, c0, c1, c2, c3, c4, hR, hbr⟩ := hL.at hblt hb hlt
      obtain ⟨x', ⟨u1, u2⟩, hx', c0', c1', c2', c3', c4', hR', hbr'⟩ := hL'.at hblt' hb hlt
      obtain rfl : x = x' := by rw [hx] at hx'; exact Option.some.inj hx'
      clear ha ha' hL hL' hx hx'
      dsimp only at c2 c4 c2' c4' hR hR'
      go_wp2_with fail
      go_region_held3 (fun w' => w'.cell? ⟨b, o + k * 5, none⟩ = some (.int .i64 x.k) ∧ w'.cell? ⟨b, o + k * 5 + 1, none⟩ = some (.string x.s) ∧ w'.cell? ⟨b, o + k * 5 + 2, none⟩ = some v1 ∧ w'.cell? ⟨b, o + k * 5 + 3, none⟩ = some (.string x.q) ∧ w'.cell? ⟨b, o + k * 5 + 4, none⟩ = some v2 ∧ w'.cell? ⟨b', o' + k * 5, none⟩ = some (.int .i64 x.k) ∧ w'.cell? ⟨b', o' + k * 5 + 1, none⟩ = some (.string x.s) ∧ w'.cell? ⟨b', o' + k * 5 + 2, none⟩ = some u1 ∧ w'.cell? ⟨b', o' + k * 5 + 3, none⟩ = some (.string x.q) ∧ w'.cell? ⟨b', o' + k * 5 + 4, none⟩ = some u2) (refine ⟨?_, ?_, ?_, ?_, ?_, ?_, ?_, ?_, ?_, ?_⟩ <;> first | (go_simp; done) | (exact cell_later (by assumption) (by go_simp))) (first | (go_at_call 16; refine (sameStep_any x v1 v2 u1 u2 _ (hR.below (bela)) (hR'.below (bela))).mono ?_; rintro e w1 ⟨rfl, hb1⟩))
      go_wp2
      go_roundw
      case rel => exact ⟨k + 1, hlt, by simp, bela⟩
      case measure => simp [intOf]; omega
    · go_wp2
      go_returns
      exact ⟨rfl, hb⟩
set_option maxHeartbeats 2000000 in
set_option maxRecDepth 100000 in
theorem at_any (v : Value) (l : Nat) (i : Nat) (w : World) (h : BytesB w w.heap.size v l) (hi : i ≤ 10) :
    Calls Tryz.prog 21 #[v, .int .i64 i] w fun e w' => (∃ x : Int, e = .returned (.int .i64 x) ∧ 0 ≤ x ∧ x ≤ 255) ∧ Below w.heap.size w w' := by
  obtain ⟨a, c, rfl, hlc, hl, hb⟩ := h
  by_cases hlt : i < l
  · obtain ⟨b, o, rfl, hbl, x, x0, x1, hx⟩ := hb i hlt
    have hI : (i : Int) < l := by omega
    have e1 : wrap64 x = x := by unfold wrap64; omega
    have e2 : IntKind.i64.wrap x = x := by rw [IntKind.wrap_i64]; omega
    clear hb
    go_enter Tryz.func21, Tryz.ntmps21
    go_wp2
    go_returns
    exact ⟨⟨x, rfl, x0, x1⟩, by go_grown⟩
  · have hI : ¬ (i : Int) < l := by omega
    have e1 : wrap64 ((i : Int) * 7) = (i : Int) * 7 := by unfold wrap64; omega
    have e2 : wrap64 ((i : Int) * 7 + l) = (i : Int) * 7 + l := by unfold wrap64; omega
    clear hb
    go_enter Tryz.func21, Tryz.ntmps21
    go_wp2
    go_returns
    exact ⟨⟨_, rfl, Int.emod_nonneg _ (by omega), by have := Int.emod_lt_of_pos ((i : Int) * 7 + l) (show (0 : Int) < 256 by omega); omega⟩, by go_grown⟩
end Go.Proofs.YtbmoimfimeiglaaGreat
