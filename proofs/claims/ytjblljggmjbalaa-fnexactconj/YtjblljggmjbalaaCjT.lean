/- Own text. For the program's Conj: what its loop keeps; how it stays so when a part is told, and when an and is opened. -/
import Derived.Test.YtjblljggmjbalaaCjL
import Derived.Test.YtjblljggmjbalaaExM
import Derived.Handy
namespace Go.Proofs.Ytjblljggmjbalaa
open Go.RowKit Go.Deep Go.ChangeShapes Go.WideShapes
set_option linter.unusedVariables false
structure CjW (w : World) (M N D : Nat) (y z : Value) (ps ls : List E7) (us vs : List Value) (G L : List (List Nat)) (es : Array MapEntry) (ck : Nat) : Prop where
  E : ExpOwn w N D y ps us G
  Lf : LfC w N D z ls vs L
  map : w.heap[M]? = some (.map es ck)
  keys : ∀ en ∈ es.toList, ∃ a, en.key = .pointer (some a) ∧ a.block ∉ L.flatten ∧ FrX w a.block ∧ y.ownBlock ≠ some a.block ∧ z.ownBlock ≠ some a.block
  nd : (G.flatten ++ L.flatten).Nodup
  fG : ∀ b ∈ G.flatten, FrX w b
  fL : ∀ b ∈ L.flatten, N ≤ b ∧ FrX w b
  zo : ∀ b, z.ownBlock = some b → b ∉ G.flatten ∧ b ∉ L.flatten ∧ y.ownBlock ≠ some b
  yo : ∀ b, y.ownBlock = some b → b ∉ L.flatten
theorem ExpOwn.keepF {w w' : World} {N d : Nat} {v : Value} {es : List E7} {us : List Value} {G : List (List Nat)} (h : ExpOwn w N d v es us G) (hs : w.heap.size ≤ w'.heap.size) (hv : ∀ b, v.ownBlock = some b → w'.heap[b]? = w.heap[b]?) (hk : ∀ b ∈ G.flatten, w'.heap[b]? = w.heap[b]?) : ExpOwn w' N d v es us G :=
  ⟨ownsE_keep h.own hv, h.ul, h.gl, h.wf, fun i e u g he hu hg => (h.kid i e u g he hu hg).keep hs fun b hb => hk b (List.mem_flatten.2 ⟨g, List.mem_of_getElem? hg, hb⟩), h.free.keep hk, h.out⟩
theorem FrX.lt {w : World} {b : Nat} (h : FrX w b) : b < w.heap.size := by
  obtain ⟨⟨c, t, l, h⟩, _⟩ := h
  rcases Nat.lt_or_ge b w.heap.size with h' | h'
  · exact h'
  · simp [Array.getElem?_eq_none h'] at h
theorem FrX.ne {w : World} {b M : Nat} {es : Array MapEntry} {ck : Nat} (h : FrX w b) (hM : w.heap[M]? = some (.map es ck)) : b ≠ M := by
  obtain ⟨⟨c, t, l, h⟩, _⟩ := h
  rintro rfl
  rw [hM] at h
  cases h
theorem own_ne {w : World} {N e s n M : Nat} {v : Value} {xs : List Value} {es : Array MapEntry} {ck : Nat} (h : w.ownsRow N e s v n xs) (hM : w.heap[M]? = some (.map es ck)) : v.ownBlock ≠ some M := by
  intro hb
  rcases h.2 with ⟨rfl, _⟩ | ⟨g, cap, cur, rfl, _, hc, _⟩
  · simp [Value.ownBlock] at hb
  · simp [Value.ownBlock] at hb
    subst hb
    rw [hM] at hc
    cases hc
section
variable {w w' : World} {M N D : Nat} {y z : Value} {ps : List E7} {us : List Value} {G L : List (List Nat)} {es : Array MapEntry} {ck : Nat}
/-- a part is told: the last of the left goes behind the parts. -/
theorem CjW.move {init : List E7} {x : E7} {us' : List Value} {ux : Value} {L' : List (List Nat)} {gx : List Nat} {v5 z' : Value} (h : CjW w M N D y z ps (init ++ [x]) us (us' ++ [ux]) G (L' ++ [gx]) es ck)
    (hz' : z'.ownBlock = z.ownBlock) (hLf : LfC w N D z' init us' L') (hE5 : ExpOwn w' N D v5 (ps ++ [x]) (us ++ [ux]) (G ++ [gx]))
    (hs : w.heap.size ≤ w'.heap.size) (hk : ∀ b, b < w.heap.size → y.ownBlock ≠ some b → w'.heap[b]? = w.heap[b]?) (hat : ∀ b, v5.ownBlock = some b → y.ownBlock = some b ∨ w.heap.size ≤ b) :
    CjW w' M N D v5 z' (ps ++ [x]) init (us ++ [ux]) us' (G ++ [gx]) L' es ck := by
  have hfl : (L' ++ [gx]).flatten = L'.flatten ++ gx := by simp
  have hgl : (G ++ [gx]).flatten = G.flatten ++ gx := by simp
  have hnd := h.nd
  rw [hfl] at hnd
  have hL : ∀ b ∈ L'.flatten, b ∈ (L' ++ [gx]).flatten := fun b hb => by rw [hfl]; exact List.mem_append_left _ hb
  have hX : ∀ b ∈ gx, b ∈ (L' ++ [gx]).flatten := fun b hb => by rw [hfl]; exact List.mem_append_right _ hb
  have kL : ∀ b ∈ (L' ++ [gx]).flatten, w'.heap[b]? = w.heap[b]? := fun b hb => hk b (h.fL b hb).2.lt (fun e => h.yo b e hb)
  have kG : ∀ b ∈ G.flatten, w'.heap[b]? = w.heap[b]? := fun b hb => hk b (h.fG b hb).lt (fun e => h.E.out b e hb)
  have kz : ∀ b, z'.ownBlock = some b → w'.heap[b]? = w.heap[b]? := fun b hb => hk b (ownsE_lt hLf.1 b hb).2 ((h.zo b (hz' ▸ hb)).2.2)
  have hMl : M < w.heap.size := by
    rcases Nat.lt_or_ge M w.heap.size with h' | h'
    · exact h'
    · have := h.map; simp [Array.getElem?_eq_none h'] at this
  have new : ∀ b, v5.ownBlock = some b → ∀ q, q < w.heap.size → y.ownBlock ≠ some q → b ≠ q := by
    intro b hb q hq hne e
    subst e
    rcases hat b hb with h1 | h1
    · exact hne h1
    · omega
  refine ⟨hE5, hLf.keep hs kz (fun b hb => kL b (hL b hb)), (hk M hMl (own_ne h.E.own h.map)).trans h.map, fun en hen => ?_, ?_, fun b hb => ?_, fun b hb => ?_, fun b hb => ?_, fun b hb hb2 => ?_⟩
  · obtain ⟨a, h1, h2, h3, h4, h5⟩ := h.keys en hen
    exact ⟨a, h1, fun hb => h2 (hL _ hb), h3.keep (hk _ h3.lt h4), fun e => new _ e _ h3.lt h4 rfl, by rw [hz']; exact h5⟩
  · rw [hgl, List.append_assoc]
    have := hnd
    rw [← List.append_assoc] at this
    have p : (G.flatten ++ (gx ++ L'.flatten)).Perm (G.flatten ++ L'.flatten ++ gx) := by
      rw [List.append_assoc]
      exact List.Perm.append_left _ List.perm_append_comm
    exact p.nodup_iff.2 this
  · rw [hgl] at hb
    rcases List.mem_append.1 hb with hb | hb
    · exact (h.fG b hb).keep (kG b hb)
    · exact (h.fL b (hX b hb)).2.keep (kL b (hX b hb))
  · exact ⟨(h.fL b (hL b hb)).1, (h.fL b (hL b hb)).2.keep (kL b (hL b hb))⟩
  · obtain ⟨h1, h2, h3⟩ := h.zo b (hz' ▸ hb)
    refine ⟨?_, fun hb2 => h2 (hL b hb2), fun e => new b e b (ownsE_lt hLf.1 b hb).2 h3 rfl⟩
    rw [hgl]
    intro hb2
    rcases List.mem_append.1 hb2 with hb2 | hb2
    · exact h1 hb2
    · exact h2 (hX b hb2)
  · exact new b hb b (h.fL b (hL b hb2)).2.lt (fun e => h.yo b e (hL b hb2)) rfl
/-- an and is opened: its kids go behind the left, its pointer into the map. -/
theorem CjW.open {init : List E7} {x p q : E7} {us' : List Value} {ux up uq : Value} {L' : List (List Nat)} {gp gq : List Nat} {b0 o0 : Nat} {z' z5 : Value} (h : CjW w M N D y z ps (init ++ [x]) us (us' ++ [ux]) G (L' ++ [b0 :: (gp ++ gq)]) es ck)
    (hz' : z'.ownBlock = z.ownBlock) (hLf : LfC w N D z' init us' L') (hp : p.wf ∧ KidsIs w D up p.ks gp) (hq : q.wf ∧ KidsIs w D uq q.ks gq)
    (ho : w'.ownsRow N 32 7 z5 (init.length + 2) (ec us' init ++ (c7 uq q ++ c7 up p)))
    (hM' : w'.heap[M]? = some (.map (es.push ⟨.pointer (some ⟨b0, o0, none⟩), .int .i64 1, ck⟩) (ck + 1)))
    (hs : w.heap.size ≤ w'.heap.size) (hk : ∀ b, b < w.heap.size → b ≠ M → z.ownBlock ≠ some b → w'.heap[b]? = w.heap[b]?) (hat : ∀ b, z5.ownBlock = some b → z.ownBlock = some b ∨ w.heap.size ≤ b) :
    CjW w' M N D y z5 ps (init ++ [q, p]) us (us' ++ [uq, up]) G (L' ++ [gq, gp]) (es.push ⟨.pointer (some ⟨b0, o0, none⟩), .int .i64 1, ck⟩) (ck + 1) := by
  have hfl : (L' ++ [b0 :: (gp ++ gq)]).flatten = L'.flatten ++ b0 :: (gp ++ gq) := by simp
  have hgl : (L' ++ [gq, gp]).flatten = L'.flatten ++ (gq ++ gp) := by simp
  have hnd := h.nd
  rw [hfl] at hnd
  have sub : ∀ b ∈ (L' ++ [gq, gp]).flatten, b ∈ (L' ++ [b0 :: (gp ++ gq)]).flatten ∧ b ≠ b0 := by
    intro b hb
    rw [hgl] at hb
    rw [hfl]
    have h2 := (List.nodup_append.1 hnd).2.1
    have h3 := List.nodup_append.1 h2
    have hb0 : b0 ∉ gp ++ gq := (List.nodup_cons.1 h3.2.1).1
    rcases List.mem_append.1 hb with hb | hb
    · exact ⟨List.mem_append_left _ hb, fun e => h3.2.2 b hb b0 (by simp) e⟩
    · have : b ∈ gp ++ gq := by
        rcases List.mem_append.1 hb with hb | hb
        · exact List.mem_append_right _ hb
        · exact List.mem_append_left _ hb
      exact ⟨List.mem_append_right _ (List.mem_cons_of_mem _ this), fun e => hb0 (e ▸ this)⟩
  have h0 : b0 ∈ (L' ++ [b0 :: (gp ++ gq)]).flatten := by rw [hfl]; simp
  have kL : ∀ b ∈ (L' ++ [b0 :: (gp ++ gq)]).flatten, w'.heap[b]? = w.heap[b]? := fun b hb => hk b (h.fL b hb).2.lt ((h.fL b hb).2.ne h.map) (fun e => (h.zo b e).2.1 hb)
  have kG : ∀ b ∈ G.flatten, w'.heap[b]? = w.heap[b]? := fun b hb => hk b (h.fG b hb).lt ((h.fG b hb).ne h.map) (fun e => (h.zo b e).1 hb)
  have hyb := ownsE_lt h.E.own
  have ky : ∀ b, y.ownBlock = some b → w'.heap[b]? = w.heap[b]? := fun b hb => hk b (hyb b hb).2 (fun e => own_ne h.E.own h.map (e ▸ hb)) (fun e => (h.zo b e).2.2 hb)
  have new : ∀ b, z5.ownBlock = some b → ∀ r, r < w.heap.size → z.ownBlock ≠ some r → b ≠ r := by
    intro b hb r hr hne e
    subst e
    rcases hat b hb with h1 | h1
    · exact hne h1
    · omega
  have hgm : ∀ b, b ∈ gp ∨ b ∈ gq → b ∈ (L' ++ [b0 :: (gp ++ gq)]).flatten := by
    intro b hb
    rw [hfl]
    refine List.mem_append_right _ (List.mem_cons_of_mem _ ?_)
    rcases hb with hb | hb
    · exact List.mem_append_left _ hb
    · exact List.mem_append_right _ hb
  have hL1 : ∀ b ∈ L'.flatten, b ∈ (L' ++ [b0 :: (gp ++ gq)]).flatten := fun b hb => by rw [hfl]; exact List.mem_append_left _ hb
  have hLfk : ∀ (i : Nat) (e : E7) (u : Value) (g : List Nat), init[i]? = some e → us'[i]? = some u → L'[i]? = some g → e.wf ∧ KidsIs w' D u e.ks g := fun i e u g he hu hg =>
    ⟨(hLf.2.2.2 i e u g he hu hg).1, (hLf.2.2.2 i e u g he hu hg).2.keep hs fun b hbg => kL b (hL1 b (List.mem_flatten.2 ⟨g, List.mem_of_getElem? hg, hbg⟩))⟩
  have hE' : ExpOwn w' N D y ps us G := h.E.keepF hs ky kG
  refine ⟨hE', ?_, hM', fun en hen => ?_, ?_, fun b hb => (h.fG b hb).keep (kG b hb), fun b hb => ?_, fun b hb => ?_, fun b hb hb2 => h.yo b hb (sub b hb2).1⟩
  · exact LfC.twoC hLf.2.1 hLf.2.2.1 hLfk ⟨hq.1, hq.2.keep hs fun b hb => kL b (hgm b (.inr hb))⟩ ⟨hp.1, hp.2.keep hs fun b hb => kL b (hgm b (.inl hb))⟩ ho
  · rw [Array.toList_push] at hen
    rcases List.mem_append.1 hen with hen | hen
    · obtain ⟨a, h1, h2, h3, h4, h5⟩ := h.keys en hen
      exact ⟨a, h1, fun hb => h2 (sub _ hb).1, h3.keep (hk _ h3.lt (h3.ne h.map) h5), h4, fun e => new _ e _ h3.lt h5 rfl⟩
    · rw [List.mem_singleton.1 hen]
      have f0 := (h.fL b0 h0).2
      exact ⟨⟨b0, o0, none⟩, rfl, fun hb => (sub _ hb).2 rfl, f0.keep (kL b0 h0), fun e => h.yo b0 e h0, fun e => new _ e _ f0.lt (fun e2 => (h.zo b0 e2).2.1 h0) rfl⟩
  · rw [hgl]
    have p1 : (G.flatten ++ (L'.flatten ++ b0 :: (gp ++ gq))).Perm (b0 :: (G.flatten ++ (L'.flatten ++ (gq ++ gp)))) := by
      refine (List.Perm.append_left _ List.perm_middle).trans (List.perm_middle.trans ?_)
      refine List.Perm.cons _ (List.Perm.append_left _ (List.Perm.append_left _ List.perm_append_comm))
    exact (List.nodup_cons.1 (p1.nodup_iff.1 hnd)).2
  · obtain ⟨h1, h2⟩ := sub b hb
    exact ⟨(h.fL b h1).1, (h.fL b h1).2.keep (kL b h1)⟩
  · refine ⟨fun hb2 => ?_, fun hb2 => ?_, fun e => ?_⟩
    · exact new b hb b (h.fG b hb2).lt (fun e => (h.zo b e).1 hb2) rfl
    · exact new b hb b (h.fL b (sub b hb2).1).2.lt (fun e => (h.zo b e).2.1 (sub b hb2).1) rfl
    · exact new b hb b (hyb b e).2 (fun e2 => (h.zo b e2).2.2 e) rfl
end
end Go.Proofs.Ytjblljggmjbalaa
