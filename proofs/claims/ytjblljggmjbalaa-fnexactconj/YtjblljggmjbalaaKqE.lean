/- Own text. What copyPlaces keeps beside its nodes: either few nodes, and no list noted; or where each list stood that is still to be copied, each in a block of its own, and the lists that are noted are others. -/
import Derived.Test.YtjblljggmjbalaaNodK
import Derived.Test.YtjblljggmjbalaaFrK
import Derived.Handy
namespace Go.Proofs.Ytjblljggmjbalaa
open Go.RowKit Go.Deep
set_option linter.unusedVariables false
/-- how many expressions stand in one. -/
def cntE : DataW (Int × Int × V3 × ByteArray) → Nat
  | .agg (.held _ :: l) => 1 + (l.attach.map fun x => have := List.sizeOf_lt_of_mem x.2; cntE x.1).sum
  | _ => 1
def cntEs : List E7 → Nat
  | [] => 0
  | e :: es => cntE e + cntEs es
theorem cntEs_sum (l : List E7) : (l.map cntE).sum = cntEs l := by
  induction l with
  | nil => rfl
  | cons e es ih => rw [List.map_cons, List.sum_cons, cntEs, ih]
theorem cntE_eq (e : E7) : cntE e = 1 + cntEs e.ks := by
  rw [cntE.eq_def]
  split
  · rename_i q l
    have : (l.attach.map fun x => cntE x.1) = l.map cntE := by simp
    show 1 + (l.attach.map fun x => cntE x.1).sum = 1 + cntEs l
    rw [this, cntEs_sum]
  · rename_i h
    have hk : E7.ks e = [] := by unfold E7.ks; split; exact absurd rfl (h _ _); rfl
    rw [hk]
    rfl
/-- the nodes behind place i, and all that stands in them. -/
def cntN (i : Nat) (ns : List Nd) : Nat := ((ns.drop i).map fun x => cntE x.e).sum
theorem cntN_pos {i : Nat} {ns : List Nd} {x : Nd} (h : ns[i]? = some x) : cntN i ns = cntE x.e + cntN (i + 1) ns := by
  obtain ⟨hi, rfl⟩ := List.getElem?_eq_some_iff.1 h
  unfold cntN
  rw [List.drop_eq_getElem_cons hi]
  simp only [List.map_cons, List.sum_cons]
theorem cnt_news (ks : List E7) (g : Nat) : ((news ks g).map fun x => cntE x.e).sum = cntEs ks := by
  have e : (news ks g).map (fun x => cntE x.e) = ks.map cntE := by
    apply List.ext_getElem?
    intro i
    simp [news]
    cases ks[i]? <;> rfl
  rw [e, cntEs_sum]
theorem cntN_step {i : Nat} {ns : List Nd} {x : Nd} (g : Nat) (h : ns[i]? = some x) : i + 1 + cntN (i + 1) (ns ++ news x.e.ks g) = i + cntN i ns := by
  have hi : i < ns.length := (List.getElem?_eq_some_iff.1 h).1
  rw [cntN_pos h, cntE_eq]
  have e : cntN (i + 1) (ns ++ news x.e.ks g) = cntN (i + 1) ns + cntEs x.e.ks := by
    unfold cntN
    rw [List.drop_append_of_le_length (by omega), List.map_append, List.sum_append, cnt_news]
  omega
theorem cntN_len (i : Nat) (ns : List Nd) : ns.length - i ≤ cntN i ns := by
  unfold cntN
  rw [← List.length_drop]
  generalize ns.drop i = l
  induction l with
  | nil => simp
  | cons x xs ih =>
    have := cntE_eq x.e
    simp only [List.map_cons, List.sum_cons, List.length_cons] at ih ⊢
    omega
/-- the lists that are still to be copied, each in a block of its own; those noted are others. -/
structure KQ (w : World) (D : Nat) (F0 : List Nat) (wr : World) (i : Nat) (ns : List Nd) (Fs : List (List Nat)) (es : Array MapEntry) : Prop where
  len : Fs.length = ns.length
  kid : ∀ (j : Nat) (x : Nd) (F : List Nat), i ≤ j → ns[j]? = some x → Fs[j]? = some F → ∃ u, wr.cell? ⟨x.b, x.o + 6, none⟩ = some u ∧ KidsIs w (D + 1) u x.e.ks F
  nd : (Fs.drop i).flatten.Nodup
  sub : ∀ F ∈ Fs.drop i, ∀ b ∈ F, b ∈ F0
  keys : ∀ e ∈ es.toList, ∃ (a : Addr) (m : Int), e.key = .agg #[.pointer (some a), .int .i64 m] ∧ a.block ∈ F0 ∧ ∀ F ∈ Fs.drop i, a.block ∉ F
  fr : ∀ x ∈ F0, Fr w x ∧ x < w.heap.size
def MQ (w : World) (D : Nat) (F0 : List Nat) (wr : World) (i : Nat) (ns : List Nd) (es : Array MapEntry) : Prop :=
  (es = #[] ∧ i + cntN i ns ≤ 8191) ∨ ∃ Fs, KQ w D F0 wr i ns Fs es
theorem MQ.few {w : World} {D : Nat} {F0 : List Nat} {wr : World} {i : Nat} {ns : List Nd} {es : Array MapEntry} (h : MQ w D F0 wr i ns es) (hl : 8192 ≤ ns.length) : ∃ Fs, KQ w D F0 wr i ns Fs es := by
  rcases h with ⟨_, h⟩ | h
  · have := cntN_len i ns
    omega
  · exact h
theorem KQ.here {w : World} {D : Nat} {F0 : List Nat} {wr : World} {i : Nat} {ns : List Nd} {Fs : List (List Nat)} {es : Array MapEntry} {x : Nd} {b o n c : Nat} (h : KQ w D F0 wr i ns Fs es) (hx : ns[i]? = some x) (hu : wr.cell? ⟨x.b, x.o + 6, none⟩ = some (.slice (some ⟨b, o, none⟩) n c)) (hne : x.e.ks ≠ []) :
    ∃ G, Fs.drop i = (b :: G.flatten) :: Fs.drop (i + 1) ∧ G.length = x.e.ks.length ∧ ELies w D b o x.e.ks G := by
  have hi : i < Fs.length := by rw [h.len]; exact (List.getElem?_eq_some_iff.1 hx).1
  obtain ⟨u, hu', hK⟩ := h.kid i x Fs[i] (Nat.le_refl _) hx (by simp)
  rw [hu] at hu'
  obtain rfl := Option.some.inj hu'
  obtain ⟨a, c', b', o', G, e, _, _, hG, _, ha⟩ := hK.pick
  obtain ⟨rfl, _, hF, hL⟩ := ha 0 (List.length_pos_iff.2 hne)
  injection e with e1
  injection e1 with e1
  injection e1 with e1 e2
  subst e1 e2
  exact ⟨G, by rw [List.drop_eq_getElem_cons hi, hF], hG, hL⟩
/-- the list that is looked up is none of those noted. -/
theorem MQ.miss {w : World} {D : Nat} {F0 : List Nat} {wr wX : World} {i : Nat} {ns : List Nd} {es : Array MapEntry} {x : Nd} {b o n c : Nat} (h : MQ w D F0 wr i ns es) (hx : ns[i]? = some x) (hu : wr.cell? ⟨x.b, x.o + 6, none⟩ = some (.slice (some ⟨b, o, none⟩) n c)) (hne : x.e.ks ≠ []) (hX : Below w.heap.size w wX) :
    ∀ e ∈ es.toList, ∃ (a : Addr) (m : Int), e.key = .agg #[.pointer (some a), .int .i64 m] ∧ (⟨b, o, none⟩ : Addr) ≠ a ∧ Fr wX (⟨b, o, none⟩ : Addr).block ∧ Fr wX a.block := by
  rcases h with ⟨rfl, _⟩ | ⟨Fs, h⟩
  · intro e he; simp at he
  · obtain ⟨G, hd, _, _⟩ := h.here hx hu hne
    intro e he
    obtain ⟨a, m, hk, ha, hF⟩ := h.keys e he
    have hb0 : b ∈ F0 := h.sub (b :: G.flatten) (by rw [hd]; exact List.mem_cons_self) b List.mem_cons_self
    have fr : ∀ y ∈ F0, Fr wX y := fun y hy => (h.fr y hy).1.keep (hX.block y (h.fr y hy).2)
    refine ⟨a, m, hk, ?_, fr b hb0, fr _ ha⟩
    rintro rfl
    exact hF (b :: G.flatten) (by rw [hd]; exact List.mem_cons_self) List.mem_cons_self
/-- a node without kids is passed by. -/
theorem MQ.skip {w : World} {D : Nat} {F0 : List Nat} {wr w3 : World} {i : Nat} {ns : List Nd} {es : Array MapEntry} {x : Nd} (h : MQ w D F0 wr i ns es) (hx : ns[i]? = some x)
    (hcell : ∀ (j : Nat) (y : Nd), ns[j]? = some y → j ≠ i → w3.cell? ⟨y.b, y.o + 6, none⟩ = wr.cell? ⟨y.b, y.o + 6, none⟩) : MQ w D F0 w3 (i + 1) ns es := by
  rcases h with ⟨he, h⟩ | ⟨Fs, h⟩
  · left
    refine ⟨he, ?_⟩
    have := cntN_pos hx
    have := cntE_eq x.e
    omega
  · right
    have hi : i < Fs.length := by rw [h.len]; exact (List.getElem?_eq_some_iff.1 hx).1
    have hd : Fs.drop i = Fs[i] :: Fs.drop (i + 1) := List.drop_eq_getElem_cons hi
    refine ⟨Fs, h.len, fun j y F hj hy hF => ?_, ?_, fun F hF => h.sub F (by rw [hd]; exact List.mem_cons_of_mem _ hF), fun e he => ?_, h.fr⟩
    · obtain ⟨u, hu, hK⟩ := h.kid j y F (by omega) hy hF
      exact ⟨u, (hcell j y hy (by omega)).trans hu, hK⟩
    · have := h.nd
      rw [hd, List.flatten_cons, List.nodup_append] at this
      exact this.2.1
    · obtain ⟨a, m, hk, ha, hF⟩ := h.keys e he
      exact ⟨a, m, hk, ha, fun F hF' => hF F (by rw [hd]; exact List.mem_cons_of_mem _ hF')⟩
theorem KQ.step {w : World} {D : Nat} {F0 : List Nat} {wr w3 : World} {i gg : Nat} {ns : List Nd} {Fs : List (List Nat)} {es es' : Array MapEntry} {x : Nd} {b o n c : Nat} (h : KQ w D F0 wr i ns Fs es) (hx : ns[i]? = some x) (hu : wr.cell? ⟨x.b, x.o + 6, none⟩ = some (.slice (some ⟨b, o, none⟩) n c)) (hne : x.e.ks ≠ [])
    (hcell : ∀ (j : Nat) (y : Nd), ns[j]? = some y → j ≠ i → w3.cell? ⟨y.b, y.o + 6, none⟩ = wr.cell? ⟨y.b, y.o + 6, none⟩)
    (hgg : ∀ j, j < x.e.ks.length * 7 → w3.cell? ⟨gg, j, none⟩ = w.cell? ⟨b, o + j, none⟩)
    (hes : ∀ e ∈ es'.toList, e ∈ es.toList ∨ ∃ m : Int, e.key = .agg #[.pointer (some ⟨b, o, none⟩), .int .i64 m]) :
    ∃ Fs', KQ w D F0 w3 (i + 1) (ns ++ news x.e.ks gg) Fs' es' := by
  obtain ⟨G, hd, hG, hL⟩ := h.here hx hu hne
  have hil : i < ns.length := (List.getElem?_eq_some_iff.1 hx).1
  have hlen := h.len
  have hdr : (Fs ++ G).drop (i + 1) = Fs.drop (i + 1) ++ G := List.drop_append_of_le_length (by omega)
  have hnd := h.nd
  rw [hd, List.flatten_cons, List.nodup_append] at hnd
  obtain ⟨n1, n2, n3⟩ := hnd
  obtain ⟨nb, nG⟩ := List.nodup_cons.1 n1
  have mem : ∀ F ∈ G, ∀ y ∈ F, y ∈ b :: G.flatten := fun F hF y hy => List.mem_cons_of_mem _ (List.mem_flatten.2 ⟨F, hF, hy⟩)
  refine ⟨Fs ++ G, by rw [List.length_append, List.length_append, hlen, news_len, hG], fun j y F hj hy hF => ?_, ?_, fun F hF => ?_, fun e he => ?_, h.fr⟩
  · by_cases hjl : j < ns.length
    · rw [List.getElem?_append_left hjl] at hy
      rw [List.getElem?_append_left (by omega)] at hF
      obtain ⟨u, hu2, hK⟩ := h.kid j y F (by omega) hy hF
      exact ⟨u, (hcell j y hy (by omega)).trans hu2, hK⟩
    · rw [List.getElem?_append_right (by omega)] at hy
      rw [List.getElem?_append_right (by omega), hlen] at hF
      obtain ⟨e, he, rfl⟩ := news_of hy
      have ht : j - ns.length < x.e.ks.length := (List.getElem?_eq_some_iff.1 he).1
      obtain ⟨_, _, u, hu2, hK⟩ := hL (j - ns.length) e F he hF
      refine ⟨u, ?_, hK.up (by omega)⟩
      rw [← hu2]
      show w3.cell? ⟨gg, (j - ns.length) * 7 + 6, none⟩ = _
      rw [hgg _ (by omega), Nat.add_assoc]
  · rw [hdr, List.flatten_append, List.nodup_append]
    refine ⟨n2, nG, fun p hp q hq => ?_⟩
    rintro rfl
    exact n3 p (List.mem_cons_of_mem _ hq) p hp rfl
  · rw [hdr] at hF
    rcases List.mem_append.1 hF with hF | hF
    · exact h.sub F (by rw [hd]; exact List.mem_cons_of_mem _ hF)
    · exact fun y hy => h.sub (b :: G.flatten) (by rw [hd]; exact List.mem_cons_self) y (mem F hF y hy)
  · rw [hdr]
    rcases hes e he with hold | ⟨m, hk⟩
    · obtain ⟨a, m, hk, ha, hF⟩ := h.keys e hold
      refine ⟨a, m, hk, ha, fun F hF' hb => ?_⟩
      rcases List.mem_append.1 hF' with hF' | hF'
      · exact hF F (by rw [hd]; exact List.mem_cons_of_mem _ hF') hb
      · exact hF (b :: G.flatten) (by rw [hd]; exact List.mem_cons_self) (mem F hF' _ hb)
    · refine ⟨⟨b, o, none⟩, m, hk, h.sub (b :: G.flatten) (by rw [hd]; exact List.mem_cons_self) b List.mem_cons_self, fun F hF' hb => ?_⟩
      rcases List.mem_append.1 hF' with hF' | hF'
      · exact n3 b List.mem_cons_self b (List.mem_flatten.2 ⟨F, hF', hb⟩) rfl
      · exact nb (List.mem_flatten.2 ⟨F, hF', hb⟩)
theorem MQ.step {w : World} {D : Nat} {F0 : List Nat} {wr w3 : World} {i gg : Nat} {ns : List Nd} {es : Array MapEntry} {x : Nd} {b o n c : Nat} (h : MQ w D F0 wr i ns es) (hx : ns[i]? = some x) (hu : wr.cell? ⟨x.b, x.o + 6, none⟩ = some (.slice (some ⟨b, o, none⟩) n c)) (hne : x.e.ks ≠ [])
    (hcell : ∀ (j : Nat) (y : Nd), ns[j]? = some y → j ≠ i → w3.cell? ⟨y.b, y.o + 6, none⟩ = wr.cell? ⟨y.b, y.o + 6, none⟩)
    (hgg : ∀ j, j < x.e.ks.length * 7 → w3.cell? ⟨gg, j, none⟩ = w.cell? ⟨b, o + j, none⟩) : MQ w D F0 w3 (i + 1) (ns ++ news x.e.ks gg) es := by
  rcases h with ⟨he, h⟩ | ⟨Fs, h⟩
  · left
    exact ⟨he, by have := cntN_step gg hx; omega⟩
  · right
    exact h.step hx hu hne hcell hgg fun e he => .inl he
theorem MQ.note {w : World} {D : Nat} {F0 : List Nat} {wr w3 : World} {i gg ck : Nat} {ns : List Nd} {es : Array MapEntry} {x : Nd} {b o n c : Nat} {m : Int} {v : Value} (h : MQ w D F0 wr i ns es) (hl : 8192 ≤ ns.length) (hx : ns[i]? = some x) (hu : wr.cell? ⟨x.b, x.o + 6, none⟩ = some (.slice (some ⟨b, o, none⟩) n c)) (hne : x.e.ks ≠ [])
    (hcell : ∀ (j : Nat) (y : Nd), ns[j]? = some y → j ≠ i → w3.cell? ⟨y.b, y.o + 6, none⟩ = wr.cell? ⟨y.b, y.o + 6, none⟩)
    (hgg : ∀ j, j < x.e.ks.length * 7 → w3.cell? ⟨gg, j, none⟩ = w.cell? ⟨b, o + j, none⟩) : MQ w D F0 w3 (i + 1) (ns ++ news x.e.ks gg) (es.push ⟨.agg #[.pointer (some ⟨b, o, none⟩), .int .i64 m], v, ck⟩) := by
  obtain ⟨Fs, h⟩ := h.few hl
  right
  refine h.step hx hu hne hcell hgg fun e he => ?_
  rw [Array.toList_push] at he
  rcases List.mem_append.1 he with he | he
  · exact .inl he
  · rcases List.mem_singleton.1 he with rfl
    exact .inr ⟨m, rfl⟩
theorem mq_start {w : World} {D : Nat} {F : List Nat} {wr : World} {x : Nd} {u : Value} (h : (F.Nodup ∧ ∀ b ∈ F, Fr w b) ∨ cntE x.e ≤ 8191) (hu : wr.cell? ⟨x.b, x.o + 6, none⟩ = some u) (hk : KidsIs w (D + 1) u x.e.ks F) : MQ w D F wr 0 [x] #[] := by
  rcases h with ⟨hn, hf⟩ | h
  · right
    refine ⟨[F], rfl, fun j y G _ hy hG => ?_, by simpa using hn, fun G hG => by simp at hG; subst hG; exact fun b hb => hb, fun e he => by simp at he, fun b hb => ⟨hf b hb, hk.lt b hb⟩⟩
    cases j with
    | zero => simp at hy hG; subst hy hG; exact ⟨u, hu, hk⟩
    | succ j => simp at hy
  · left
    exact ⟨rfl, by simpa [cntN] using h⟩
end Go.Proofs.Ytjblljggmjbalaa
