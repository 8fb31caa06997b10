/- Own text. The teller of plans: a block with the text so far, and with a map that counts places; the contracts of put and isAgain. -/
import Derived.Test.YtlpgkhdmilnbgaaDoorPlM
import Derived.Test.YtlpgkhdmilnbgaaDoorBsK
import Derived.Test.YtlpgkhdmilnbgaaDoorCbl
import Derived.Lib.AppendStr
import Derived.Lib.LazyBuf
import Derived.Laws.BytesArg
import Derived.Handy
namespace Go.Proofs.YtlpgkhdmilnbgaaDoor
open Go.RowKit Go.ChangeShapes Go.WideShapes
set_option linter.unusedVariables false
theorem hidT {α : Type} (a : α) : ∃ x, Hid (a = x) := ⟨a, show a = a from rfl⟩
theorem tlByte : (Tryd.prog.info? 5).map (fun i => (i.zero, i.size, i.bytes)) = some (some (.int .u8 0), 1, 1) := by kernel_rfl
/-- bytes in their cells. -/
def u8s (L : List UInt8) : List Value := L.map fun b => Value.int .u8 b.toNat
theorem u8s_app (a b : List UInt8) : u8s (a ++ b) = u8s a ++ u8s b := by simp [u8s]
theorem u8s_bs (l : List UInt8) : Lib.strCells (bs l) = u8s l := by simp [Lib.strCells, bs, u8s]
theorem FrY.lt {w : World} {b : Nat} (h : FrY w b) : b < w.heap.size := by
  obtain ⟨⟨c, t, l, h⟩, _⟩ := h
  rcases Nat.lt_or_ge b w.heap.size with h' | h'
  · exact h'
  · simp [Array.getElem?_eq_none h'] at h
theorem FrY.ne {w : World} {b M : Nat} {es : Array MapEntry} {ck : Nat} (h : FrY w b) (hM : w.heap[M]? = some (.map es ck)) : b ≠ M := by
  obtain ⟨⟨c, t, l, h⟩, _⟩ := h
  rintro rfl
  rw [hM] at h
  cases h
theorem tl_lt {w : World} {b : Nat} {o : Obj} (h : w.heap[b]? = some o) : b < w.heap.size := by
  rcases Nat.lt_or_ge b w.heap.size with h' | h'
  · exact h'
  · simp [Array.getElem?_eq_none h'] at h
/-- block T is a teller that has the text L and counts in the map M, whose keys are of S; all of it in memory of the call's own from N on, the keys ahead of it. -/
structure Tl (w : World) (N T M : Nat) (y : Value) (L : List UInt8) (S : Addr → Prop) : Prop where
  tN : N ≤ T
  mN : N ≤ M
  blk : w.heap[T]? = some (.cells #[y, .map (some M)] 52 (0, 0))
  own : w.ownsRow N 5 1 y L.length (u8s L)
  map : ∃ es ck, w.heap[M]? = some (.map es ck) ∧ ∀ e ∈ es.toList, ∃ a, e.key = .pointer (some a) ∧ S a ∧ a.block < N ∧ FrY w a.block
section
variable {w w' : World} {N T M : Nat} {y : Value} {L : List UInt8} {S S' : Addr → Prop}
theorem own_blk {g n e s : Nat} {v : Value} {xs : List Value} {c : Array Value} {t : TypeId} {l : Nat × Nat} (h : w.ownsRow N e s v n xs) (hb : w.heap[g]? = some (.cells c t l)) (ht : t ≠ e) : v.ownBlock ≠ some g := by
  intro e'
  rcases h.2 with ⟨rfl, _⟩ | ⟨g', cap, cur, rfl, _, hc, _⟩
  · simp [Value.ownBlock] at e'
  · simp [Value.ownBlock] at e'
    subst e'
    rw [hb] at hc
    simp at hc
    exact ht hc.2.1
theorem own_map {e s n : Nat} {v : Value} {xs : List Value} {es : Array MapEntry} {ck : Nat} (h : w.ownsRow N e s v n xs) (hM : w.heap[M]? = some (.map es ck)) : v.ownBlock ≠ some M := by
  intro hb
  rcases h.2 with ⟨rfl, _⟩ | ⟨g, cap, cur, rfl, _, hc, _⟩
  · simp [Value.ownBlock] at hb
  · simp [Value.ownBlock] at hb
    subst hb
    rw [hM] at hc
    cases hc
theorem own_at {n e s : Nat} {v : Value} {xs : List Value} (h : w.ownsRow N e s v n xs) : ∀ b, v.ownBlock = some b → N ≤ b ∧ b < w.heap.size := by
  intro b hb
  rcases h.2 with ⟨rfl, _⟩ | ⟨g, cap, cur, rfl, hg, hc, _⟩
  · simp [Value.ownBlock] at hb
  · simp [Value.ownBlock] at hb
    subst hb
    exact ⟨hg, tl_lt hc⟩
theorem own_keep {n e s : Nat} {v : Value} {xs : List Value} (h : w.ownsRow N e s v n xs) (hb : ∀ b, v.ownBlock = some b → w'.heap[b]? = w.heap[b]?) : w'.ownsRow N e s v n xs := by
  refine ⟨h.1, ?_⟩
  rcases h.2 with h0 | ⟨g, cap, cur, rfl, hg, hc, r⟩
  · exact .inl h0
  · exact .inr ⟨g, cap, cur, rfl, hg, (hb g rfl).trans hc, r⟩
theorem own_shape {n e s : Nat} {v : Value} {xs : List Value} (h : w.ownsRow N e s v n xs) : ∃ ao cap, v = .slice ao n cap := by
  have h1 := h.1
  rcases h.2 with ⟨rfl, h0⟩ | ⟨g, cap, cur, rfl, _⟩
  · exact ⟨none, 0, by rw [h0]⟩
  · exact ⟨_, _, rfl⟩
theorem Tl.mono (h : Tl w N T M y L S) (hS : ∀ a, S a → S' a) : Tl w N T M y L S' := by
  obtain ⟨a, b, c, d, es, ck, h1, h2⟩ := h
  exact ⟨a, b, c, d, es, ck, h1, fun e he => by obtain ⟨q, q1, q2, q3⟩ := h2 e he; exact ⟨q, q1, hS q q2, q3⟩⟩
theorem Tl.keep (h : Tl w N T M y L S) (hT : w'.heap[T]? = w.heap[T]?) (hM : w'.heap[M]? = w.heap[M]?) (hy : ∀ b, y.ownBlock = some b → w'.heap[b]? = w.heap[b]?) (hN : ∀ b, b < N → w'.heap[b]? = w.heap[b]?) : Tl w' N T M y L S := by
  obtain ⟨a, b, c, d, es, ck, h1, h2⟩ := h
  exact ⟨a, b, hT.trans c, own_keep d hy, es, ck, hM.trans h1, fun e he => by obtain ⟨q, q1, q2, q3, q4⟩ := h2 e he; exact ⟨q, q1, q2, q3, q4.keep (hN _ q3)⟩⟩
theorem Tl.ltT (h : Tl w N T M y L S) : T < w.heap.size := tl_lt h.blk
theorem Tl.ltM (h : Tl w N T M y L S) : M < w.heap.size := by obtain ⟨es, ck, h1, _⟩ := h.map; exact tl_lt h1
theorem Tl.ne (h : Tl w N T M y L S) : T ≠ M := by
  obtain ⟨es, ck, h1, _⟩ := h.map
  rintro rfl
  have := h.blk
  rw [h1] at this
  cases this
theorem Tl.below (h : Tl w N T M y L S) (hb : Below w.heap.size w w') : Tl w' N T M y L S :=
  h.keep (hb.block _ h.ltT) (hb.block _ h.ltM) (fun b hy => hb.block _ (own_at h.own b hy).2) (fun b hN => hb.block _ (by have := h.ltT; have := h.tN; omega))
/-- where the text is grown. -/
theorem Tl.grow {ao : Option Addr} {n' cap : Nat} {l : List UInt8} (h : Tl w N T M y L S) (ho : w'.ownsRow N 5 1 (.slice ao n' cap) (L.length + (bs l).size) (u8s L ++ Lib.strCells (bs l))) (hgr : w.grownBy w' y.ownBlock) :
    Tl (w'.setCell ⟨T, 0, none⟩ (.slice ao n' cap)) N T M (.slice ao n' cap) (L ++ l) S ∧ Below N w (w'.setCell ⟨T, 0, none⟩ (.slice ao n' cap)) := by
  have hT := h.ltT
  have hM := h.ltM
  have hne := h.ne
  have hyT : y.ownBlock ≠ some T := own_blk h.own h.blk (by decide)
  obtain ⟨tN, mN, blk, own, es, ck, h1, h2⟩ := h
  have hyM : y.ownBlock ≠ some M := own_map own h1
  have bT : w'.heap[T]? = some (.cells #[y, .map (some M)] 52 (0, 0)) := (hgr.block T hT (fun e => hyT e.symm)).trans blk
  have bM : w'.heap[M]? = some (.map es ck) := (hgr.block M hM (fun e => hyM e.symm)).trans h1
  have hvT : (Value.slice ao n' cap).ownBlock ≠ some T := own_blk ho bT (by decide)
  have hb0 : Below N w w' := (Below.refl N w).grown hgr (by omega) (fun k hk => (own_at own k hk).1)
  have hb1 : Below N w (w'.setCell ⟨T, 0, none⟩ (.slice ao n' cap)) := hb0.setCell (p := ⟨T, 0, none⟩) tN _
  refine ⟨⟨tN, mN, ?_, ?_, es, ck, ?_, fun e he => ?_⟩, hb1⟩
  · simp [World.setCell, Array.getElem?_modify, bT]
  · rw [u8s_app, List.length_append, ← bs_size l, ← u8s_bs l]
    exact own_keep ho fun b hb => Below.heap_setCell _ _ _ _ (by rintro rfl; exact hvT hb)
  · exact (Below.heap_setCell _ _ _ _ (by simpa using fun e => hne e.symm)).trans bM
  · obtain ⟨q, q1, q2, q3, q4⟩ := h2 e he
    exact ⟨q, q1, q2, q3, q4.keep (hb1.block _ q3)⟩
end
set_option maxHeartbeats 4000000 in
set_option maxRecDepth 100000 in
theorem tput_any (N T M : Nat) (y : Value) (L : List UInt8) (S : Addr → Prop) (ts : List (List UInt8)) (tb n c : Nat) (w : World) (h : Tl w N T M y L S) (htb : w.heap[tb]? = some (.cells (ts.map fun t => Value.string (bs t)).toArray 9 (0, 0))) (hn : ts.length = n) (hlen : L.length + ts.flatten.length ≤ 100000000000000) (hn9 : n ≤ 9) (hc : n ≤ c ∧ c ≤ 9) :
    Calls Tryd.prog 27 #[.pointer (some ⟨T, 0, none⟩), .slice (some ⟨tb, 0, none⟩) n c] w fun e w' => e = .returned (.tuple #[]) ∧ (∃ y', Tl w' N T M y' (L ++ ts.flatten) S) ∧ Below N w w' := by
  subst hn
  obtain ⟨i0, hi, hz0, hz1, hz2⟩ := info_parts tlByte
  have hTb : tb ≠ T := by
    rintro rfl
    have := h.blk
    rw [htb] at this
    simp at this
  have hlt := tl_lt htb
  have hNw : N ≤ w.heap.size := by have := h.ltT; have := h.tN; omega
  go_enter Tryd.func27, Tryd.ntmps27
  go_wp2
  go_loopw [8] (fun i wr => ∃ (k : Nat) (y' : Value), k ≤ ts.length ∧ i = .int .i64 k ∧ Tl wr N T M y' (L ++ (ts.take k).flatten) S ∧ Below N w wr ∧ wr.heap[tb]? = w.heap[tb]?) (fun i _ => ts.length - (intOf i).toNat)
  case atStart => exact ⟨0, y, Nat.zero_le _, rfl, by simpa using h, Below.refl _ _, rfl⟩
  case round =>
    obtain ⟨k, y', hk, rfl, hT, hb, htk⟩ := hrel
    have hzb := hb.size
    by_cases hlt2 : k < ts.length
    · have hcell : wr.cell? ⟨tb, k, none⟩ = some (.string (bs ts[k])) := by
        rw [Lib.cell_of_heap (htk.trans htb)]
        simp [hlt2]
      have HX : Hid ((ts.take (k + 1)).flatten = (ts.take k).flatten ++ ts[k]) := by
        show _ = _
        rw [List.take_succ_eq_append_getElem hlt2, List.flatten_append]
        simp only [List.flatten_cons, List.flatten_nil, List.append_nil]
      have hsum : (L ++ (ts.take k).flatten).length + (bs ts[k]).size ≤ 100000000000000 := by
        have h0 : ts.flatten = (ts.take (k + 1)).flatten ++ (ts.drop (k + 1)).flatten := by rw [← List.flatten_append, List.take_append_drop]
        have h1 := congrArg List.length h0
        rw [List.length_append, HX.out, List.length_append] at h1
        rw [bs_size, List.length_append]
        omega
      have HX2 : Hid (L ++ (ts.take (k + 1)).flatten = (L ++ (ts.take k).flatten) ++ ts[k]) := by
        show _ = _
        rw [HX.out, List.append_assoc]
      obtain ⟨Lk, HL⟩ := hidT (L ++ (ts.take k).flatten)
      rw [HL.out] at hT hsum HX2
      have c0 : wr.cell? ⟨T, 0, none⟩ = some y' := by rw [Lib.cell_of_heap hT.blk]; rfl
      have hown := hT.own
      have hTl := hT.ltT
      have hTn := hT.tN
      have hyT : y'.ownBlock ≠ some T := own_blk hown hT.blk (by decide)
      have hyb : y'.ownBlock ≠ some tb := own_blk hown (htk.trans htb) (by decide)
      have hTB := hT.blk
      obtain ⟨r, HR⟩ := hidT (bs ts[k])
      rw [HR.out] at hcell hsum
      obtain ⟨ao, cp, rfl⟩ := own_shape hown
      go_wp2_with (at_builtin; refine Lib.wpList_append_own_string _ rfl _ _ 50 9 rfl N 5 i0 Tryd.underlying50 Tryd.underlying9 hi hz0 hz1 hz2 _ _ _ rfl hown r rfl ?c3 ?c4 ?c5 ?_)
      case c3 => unfold maxLen; omega
      case c4 => omega
      case c5 => omega
      intro v' w2 hown' hgrow _
      have bT : w2.heap[T]? = some (.cells #[.slice ao Lk.length cp, .map (some M)] 52 (0, 0)) := (hgrow.block T hTl (fun e => hyT e.symm)).trans hTB
      have d0 : w2.cell? ⟨T, 0, none⟩ = some (.slice ao Lk.length cp) := by rw [Lib.cell_of_heap bT]; rfl
      have f0 : w2.frozen? ⟨T, 0, none⟩ = false := Lib.frozen_of_heap bT 0
      obtain ⟨a2, c2, rfl⟩ := own_shape hown'
      have hTb2 : w2.heap[tb]? = w.heap[tb]? := (hgrow.block tb (by omega) (fun e => hyb e.symm)).trans htk
      rw [← HR.out] at hown'
      obtain ⟨hT2, hb2⟩ := hT.grow hown' hgrow
      have HT2 := hT2
      have hb3 := hb.trans hb2
      rw [HR.out] at HT2 hb3
      have HTT : Hid (Tl (w2.setCell ⟨T, 0, none⟩ (.slice a2 (Lk.length + r.size) c2)) N T M (.slice a2 (Lk.length + r.size) c2) (L ++ (ts.take (k + 1)).flatten) S) := by
        show Tl _ _ _ _ _ _ _
        rw [HX2.out]; exact HT2
      clear hgrow hown hown' hT hT2 HT2 hcell c0 hTB hyT hyb bT hb2
      go_wp2
      exact ⟨⟨k + 1, _, hlt2, by simp, HTT.out, hb3, (Below.heap_setCell _ _ _ _ (by simpa using hTb)).trans hTb2⟩, by simp [intOf]; omega⟩
    · obtain rfl : k = ts.length := by omega
      rw [List.take_length] at hT
      go_wp2
      go_end0
      exact ⟨rfl, ⟨_, hT⟩, hb⟩
set_option maxHeartbeats 4000000 in
set_option maxRecDepth 100000 in
theorem again_any (N T M : Nat) (y : Value) (L : List UInt8) (S : Addr → Prop) (b o : Nat) (w : World) (h : Tl w N T M y L S) (hbN : b < N) (hF : FrY w b) (hS : ∀ a, S a → a ≠ ⟨b, o, none⟩) (hl : L.length ≤ 100000000000000) :
    Calls Tryd.prog 26 #[.pointer (some ⟨T, 0, none⟩), .pointer (some ⟨b, o, none⟩)] w fun e w' => e = .returned (.bool false) ∧ Tl w' N T M y L (fun a => S a ∨ a = ⟨b, o, none⟩) ∧ Below N w w' := by
  have hNw : N ≤ w.heap.size := by have := h.ltT; have := h.tN; omega
  have c0 : w.cell? ⟨T, 0, none⟩ = some y := by rw [Lib.cell_of_heap h.blk]; rfl
  have c1 : w.cell? ⟨T, 1, none⟩ = some (.map (some M)) := by rw [Lib.cell_of_heap h.blk]; rfl
  obtain ⟨ao, cp, rfl⟩ := own_shape h.own
  by_cases hle : L.length ≤ 67108864
  · have h1 : decide ((L.length : Int) ≤ 67108864) = true := by simp; omega
    have HT : Hid (Tl w N T M (.slice ao L.length cp) L (fun a => S a ∨ a = ⟨b, o, none⟩)) := h.mono fun a ha => .inl ha
    clear h
    go_enter Tryd.func26, Tryd.ntmps26
    go_wp2
    go_returns
    exact ⟨rfl, HT.out, Below.refl _ _⟩
  · have h1 : decide ((L.length : Int) ≤ 67108864) = false := by simp; omega
    obtain ⟨es, ck, hM, hk⟩ := h.map
    have hMl := h.ltM
    have hmN := h.mN
    have hTM := h.ne
    have hyM := own_map h.own hM
    have hkeys : ∀ e ∈ es.toList, ∃ a, e.key = .pointer (some a) ∧ (⟨b, o, none⟩ : Addr) ≠ a ∧ FrY w a.block := fun e he => by
      obtain ⟨a, q1, q2, q3, q4⟩ := hk e he
      exact ⟨a, q1, fun e => hS a q2 e.symm, q4⟩
    have hlk := look_noY w (p := ⟨b, o, none⟩) hM hF hkeys
    obtain ⟨wM, hup, hMm, hkM, hsM, hbM⟩ : ∃ wM : World, Sem.run Tryd.prog (Instr.mapUpdate 49 (.map (some M)) (.pointer (some ⟨b, o, none⟩)) (.int .i64 1)) w = .ok () wM ∧ wM.heap[M]? = some (.map (es.push ⟨.pointer (some ⟨b, o, none⟩), .int .i64 1, ck⟩) (ck + 1)) ∧ (∀ t, t ≠ M → wM.heap[t]? = w.heap[t]?) ∧ wM.heap.size = w.heap.size ∧ Below N w wM := by
      refine ⟨_, upd_noY _ (p := ⟨b, o, none⟩) hM hF hkeys, ?_, ?_, ?_, ?_⟩
      · simp [Array.getElem?_setIfInBounds]; omega
      · intro t ht
        simp [Array.getElem?_setIfInBounds]
        intro e; exact absurd e.symm ht
      · simp
      · have hA := Below.refl N w
        refine ⟨hA.os, hA.tape, hA.output, by simp, fun t ht => ?_⟩
        simp [Array.getElem?_setIfInBounds]; intro e; omega
    have hl2 := look_lastY wM (p := ⟨b, o, none⟩) hMm (hF.keep (hkM b (by omega))) (fun en hen => by
      obtain ⟨a, q1, q2, q3⟩ := hkeys en hen
      exact ⟨a, q1, q2, q3.keep (hkM _ (q3.ne hM))⟩)
    have s1 : wM.cell? ⟨T, 1, none⟩ = some (.map (some M)) := (cell_blk (hkM T hTM)).trans c1
    have HT : Hid (Tl wM N T M (.slice ao L.length cp) L (fun a => S a ∨ a = ⟨b, o, none⟩)) := by
      refine ⟨h.tN, hmN, (hkM T hTM).trans h.blk, own_keep h.own fun g hg => hkM g (fun e => hyM (e ▸ hg)), _, _, hMm, fun e he => ?_⟩
      have he' : e ∈ es.toList ∨ e = ⟨.pointer (some ⟨b, o, none⟩), .int .i64 1, ck⟩ := by simpa using he
      rcases he' with he' | rfl
      · obtain ⟨a, q1, q2, q3, q4⟩ := hk e he'
        exact ⟨a, q1, .inl q2, q3, q4.keep (hkM _ (q4.ne hM))⟩
      · exact ⟨_, rfl, .inr rfl, hbN, hF.keep (hkM b (by omega))⟩
    clear h hk hkeys hF hS hyM hM hMm hkM
    go_enter Tryd.func26, Tryd.ntmps26
    go_wp2
    go_returns
    exact ⟨rfl, HT.out, hbM⟩
end Go.Proofs.YtlpgkhdmilnbgaaDoor
