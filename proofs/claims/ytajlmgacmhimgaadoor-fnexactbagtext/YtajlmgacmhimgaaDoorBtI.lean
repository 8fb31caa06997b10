/- Own text. The contract of impl.BagText. -/
import Derived.Test.YtajlmgacmhimgaaDoorRtI
import Derived.Test.YtajlmgacmhimgaaDoorBld
import Derived.Test.YtajlmgacmhimgaaDoorBagC
import Derived.Test.YtajlmgacmhimgaaDoorBldG
import Derived.Test.YtajlmgacmhimgaaDoorTake
import Derived.Handy
import Derived.Deep.RegionHeld3
namespace Go.Proofs.YtajlmgacmhimgaaDoor
open Go.RowKit Go.ChangeShapes Go.WideShapes
set_option linter.unusedVariables false
theorem builder_belowT {T e : TypeId} {B b : Nat} {p : Value} {bs : List Value} {w w' : World} (h : Lib.BuilderAt T e B b p bs w) (hb : Below w.heap.size w w') : Lib.BuilderAt T e B b p bs w' := by
  obtain ⟨hB, v, hbk, hown, hne⟩ := h
  have hlt : b < w.heap.size := by
    rcases Nat.lt_or_ge b w.heap.size with h' | h'
    · exact h'
    · simp [Array.getElem?_eq_none h'] at hbk
  refine ⟨hB, v, (hb.block b hlt).trans hbk, ?_, hne⟩
  refine ⟨hown.1, ?_⟩
  rcases hown.2 with hn | ⟨g, cap, cur, rfl, hg, hc, rest⟩
  · exact .inl hn
  · have hgl : g < w.heap.size := by
      rcases Nat.lt_or_ge g w.heap.size with h' | h'
      · exact h'
      · simp [Array.getElem?_eq_none h'] at hc
    exact .inr ⟨g, cap, cur, rfl, hg, (hb.block g hgl).trans hc, rest⟩
theorem isBuilder_belowT {T e : TypeId} {B b : Nat} {bs : List Value} {w w' : World} (h : Lib.IsBuilder T e B b bs w) (hb : Below w.heap.size w w') : Lib.IsBuilder T e B b bs w' :=
  h.elim (fun h => .inl (builder_belowT h hb)) (fun h => .inr (builder_belowT h hb))
/-- a counted row in a block of its own. -/
def Bx2 (w : World) (b : Nat) (u : Value) (n : Int) : Prop := w.cell? ⟨b, 0, none⟩ = some u ∧ w.cell? ⟨b, 1, none⟩ = some (.int .i64 n)
theorem Bx2.of_block {w w' : World} {b : Nat} {u : Value} {n : Int} (h : Bx2 w b u n) (hb : w'.heap[b]? = w.heap[b]?) : Bx2 w' b u n := by
  obtain ⟨h0, h1⟩ := h
  unfold World.cell? at h0 h1
  exact ⟨by unfold World.cell?; rw [hb]; exact h0, by unfold World.cell?; rw [hb]; exact h1⟩
theorem Bx2.keep {w w' : World} {b : Nat} {u : Value} {n : Int} (h : Bx2 w b u n) (hb : Below w.heap.size w w') : Bx2 w' b u n := h.of_block (hb.block b (World.block_lt_of_cell? w _ h.1))
set_option maxHeartbeats 2000000 in
set_option maxRecDepth 100000 in
theorem implBagText_any (W : Int) (v : Value) (cs : List C2) (w : World) (hw : CsWf cs) (hr : RowsIs w v cs) (hE : Env w) :
    Calls Tryd.prog 17 #[.agg #[.int .i64 W, v]] w fun e w' => e = .returned (.string (bs (bagText W cs))) ∧ Below w.heap.size w w' := by
  obtain ⟨r, hr0⟩ : ∃ r, Hid (bagText W cs = r) := ⟨_, rfl⟩
  rw [hr0.out]
  obtain ⟨ok, hok⟩ : ∃ ok, Hid (okBag W cs = ok) := ⟨_, rfl⟩
  have hok' := hok.out
  obtain ⟨a, c, b, o, rfl, hl, hc, ha⟩ := hr.pick
  have HE : Hid (Env w) := hE
  have hB0 := fun w2 (hb : Below w.heap.size w w2) => implBagOk_any W _ cs w2 hw (hr.below hb)
  unfold maxLen at hc
  clear hE
  go_enter Tryd.func17, Tryd.ntmps17
  go_wp2_with fail
  refine Calls.mono (hB0 _ ?hb) ?_
  case hb => repeat (first | (with_reducible exact Below.refl _ _) | (with_reducible refine Below.drew ?_) | (with_reducible refine Below.alloc ?_ ?hh _; case hh => first | (simp; done) | (simp; omega) | omega) | (with_reducible refine Below.setCell ?_ ?hh _; case hh => first | (simp; done) | (simp; omega) | omega) | refine bstep (by assumption) (by first | (simp; done) | (simp; omega) | omega) ?_)
  rintro e w1 ⟨rfl, hb1⟩
  rw [hok']
  clear hok' hB0
  have hz1 := hb1.size
  simp only [World.size_alloc] at hz1
  have q1 : w1.cell? ⟨w.heap.size, 1, none⟩ = some (.slice a cs.length c) := cell_later hb1 (by go_simp)
  have bel1 : Below w.heap.size w w1 := by repeat (first | (with_reducible exact Below.refl _ _) | (with_reducible refine Below.drew ?_) | (with_reducible refine Below.alloc ?_ ?hh _; case hh => first | (simp; done) | (simp; omega) | omega) | (with_reducible refine Below.setCell ?_ ?hh _; case hh => first | (simp; done) | (simp; omega) | omega) | refine bstep (by assumption) (by first | (simp; done) | (simp; omega) | omega) ?_)
  clear hb1
  cases ok with
  | false =>
    have hp : Hid (r = []) := by show _ = _; rw [← hr0.out]; unfold bagText; rw [hok.out]; rfl
    go_wp2_with fail
    go_returns
    exact ⟨by rw [hp.out]; rfl, bel1⟩
  | true =>
    have hp : Hid (r = bagT cs) := by show _ = _; rw [← hr0.out]; unfold bagText; rw [hok.out]; rfl
    obtain ⟨hl400, hl12⟩ := okBag_parts hok.out
    have hr1 := hr.below bel1
    have hlt1 : w.heap.size < w1.heap.size := by omega
    clear hr
    go_wp2
    go_loopw [12] (fun i wr => ∃ k : Nat, k ≤ cs.length ∧ i = .int .i64 k ∧ Below w1.heap.size w1 wr ∧ Lib.IsBuilder 79 5 w1.heap.size w1.heap.size (Lib.byteCells (bagT (cs.take k))) wr) (fun i _ => cs.length - (intOf i).toNat)
    case atStart =>
      refine ⟨0, Nat.zero_le _, rfl, by go_grown, .inl ⟨Nat.le_refl _, .slice none 0 0, ?_, ?_, by simp [Value.ownBlock]⟩⟩
      · exact heap_alloc_new w1 _
      · simpa [bagT, Lib.byteCells] using World.ownsRow_nil _ _ _ _
    case round =>
      obtain ⟨k, hk, rfl, hb, hB⟩ := hrel
      have hzb := hb.size
      have hsz : w1.heap.size < wr.heap.size := by rcases hB with h | h <;> exact h.lt
      by_cases hlt : k < cs.length
      · obtain ⟨rfl, hblt, hL⟩ := ha k hlt
        have hwr : Below w.heap.size w wr := bel1.trans (hb.mono bel1.size)
        obtain ⟨x, u, hx, c0, hR, c1, hbr⟩ := hL.at hblt hwr hlt
        have hxw := hw x (List.mem_of_getElem? hx)
        have hx12 := hl12 x (List.mem_of_getElem? hx)
        obtain ⟨n0, n1⟩ := wf64T x.n hxw.2
        have HX : Hid (bagT (cs.take (k + 1)) = bagT (cs.take k) ++ cntT x) := bagT_take hx
        have hcl := cntT_len x hxw hx12
        have hbl := bagT_len (cs.take k) (fun y hy => hw y (List.mem_of_mem_take hy)) (fun y hy => hl12 y (List.mem_of_mem_take hy))
        have hrl := rowT_len x.r hxw.1
        have hil := Lib.itoa_length_le x.n n0 n1
        have htk : (cs.take k).length ≤ 400 := by simp; omega
        have hD := fun w2 (hb2 : Below wr.heap.size wr w2) => implDec_env x.n w2 n0 n1 (HE.out.below (hwr.trans (hb2.mono hwr.size)))
        have hRT := fun w2 (hb2 : Below wr.heap.size wr w2) => rowText_any u x.r w2 (hR.below hb2) hxw.1 (by omega) (HE.out.below (hwr.trans (hb2.mono hwr.size)))
        obtain ⟨ua, ul, uc, rfl⟩ := hR.shape
        obtain ⟨t1, H1⟩ : ∃ t1, Hid (bs (Lib.itoa x.n) = t1) := ⟨bs (Lib.itoa x.n), show bs (Lib.itoa x.n) = bs (Lib.itoa x.n) from rfl⟩
        obtain ⟨t2, H2⟩ : ∃ t2, Hid (bs (rowT x.r) = t2) := ⟨bs (rowT x.r), show bs (rowT x.r) = bs (rowT x.r) from rfl⟩
        rw [H1.out] at hD
        rw [H2.out] at hRT
        have hs1 : t1.size ≤ 40 := by rw [← H1.out, bs_size]; omega
        have hs2 : t2.size ≤ 2500 := by rw [← H2.out, bs_size]; omega
        have hs3 : (t1 ++ (⟨#[120, 32]⟩ : ByteArray)).size ≤ 42 := by rw [ByteArray.size_append]; have : (⟨#[120, 32]⟩ : ByteArray).size = 2 := rfl; omega
        have hs4 : (t1 ++ (⟨#[120, 32]⟩ : ByteArray) ++ t2).size ≤ 2542 := by rw [ByteArray.size_append]; omega
        have HF : Hid (t1 ++ (⟨#[120, 32]⟩ : ByteArray) ++ t2 ++ (⟨#[10]⟩ : ByteArray) = bs (cntT x)) := by
          show _ = _
          rw [← H1.out, ← H2.out, show (⟨#[120, 32]⟩ : ByteArray) = bs [120, 32] from rfl, show (⟨#[10]⟩ : ByteArray) = bs [10] from rfl, bs_app, bs_app, bs_app]
          simp [cntT]
        have hl1 : (Lib.byteCells (bagT (cs.take k))).length + (t1 ++ (⟨#[120, 32]⟩ : ByteArray) ++ t2 ++ (⟨#[10]⟩ : ByteArray)).size ≤ 140737488355328 := by
          rw [HF.out, bs_size, Lib.byteCells_length]
          omega
        have HC : Hid (Lib.strCells (t1 ++ (⟨#[120, 32]⟩ : ByteArray) ++ t2 ++ (⟨#[10]⟩ : ByteArray)) = Lib.byteCells (cntT x)) := by
          show _ = _
          rw [HF.out, Lib.strCells_eq]
          rfl
        clear ha hL hx hw hxw hR n0 n1 hil hrl hcl hbl htk H1 H2 HF
        have hX2 : Bx2 (wr.alloc (.cells #[.slice ua ul uc, .int .i64 x.n] 74)) wr.heap.size (.slice ua ul uc) x.n := ⟨by go_simp, by go_simp⟩
        have hvb : ∀ v, wr.cell? ⟨w1.heap.size, 1, none⟩ = some v → v.ownBlock ≠ some wr.heap.size := by
          intro v hv e
          have hcase : ∀ p, Lib.BuilderAt 79 5 w1.heap.size w1.heap.size p (Lib.byteCells (bagT (cs.take k))) wr → False := by
            rintro p ⟨_, v', hbk, hown, _⟩
            rw [Lib.cell_of_heap hbk] at hv
            obtain rfl : v' = v := by simpa using hv
            have := (hown.lt _ e).2
            omega
          rcases hB with h | h
          · exact hcase _ h
          · exact hcase _ h
        go_wp2_with fail
        refine wp_region_held_drew (S := (fun w' => Bx2 w' wr.heap.size (.slice ua ul uc) x.n)) (by kernel_rfl) ?_ (fun hHeld => ?_)
        · exact hX2.keep (by repeat (first | (with_reducible exact Below.refl _ _) | (with_reducible refine Below.drew ?_) | (with_reducible refine Below.alloc ?_ ?hh _; case hh => first | (simp; done) | (simp; omega) | omega) | (with_reducible refine Below.setCell ?_ ?hh _; case hh => first | (simp; done) | (simp; omega) | omega) | refine bstep (by assumption) (by first | (simp; done) | (simp; omega) | omega) ?_))
        refine takeYes (i := 0) (d := 16) (v := ?_) rfl rfl (by kernel_rfl) (by kernel_rfl) (by kernel_rfl) (fun _ _ _ h => h) (by rfl) (by assumption) ?_ ?_
        rotate_left
        · intro w' hSw; obtain ⟨x0, x1⟩ := hSw; go_simp; (try rw [if_neg (by omega)]); try exact rfl
        try simp only [List.setIfInBounds_toArray, List.set_cons_zero, List.set_cons_succ]
        refine takeYes (i := 1) (d := 17) (v := ?_) rfl rfl (by kernel_rfl) (by kernel_rfl) (by kernel_rfl) (fun _ _ _ h => h) (by rfl) (by assumption) ?_ ?_
        rotate_left
        · intro w' hSw; obtain ⟨x0, x1⟩ := hSw; go_simp; (try rw [if_neg (by omega)]); try exact rfl
        try simp only [List.setIfInBounds_toArray, List.set_cons_zero, List.set_cons_succ]
        refine takeYes (i := 4) (d := 20) (v := ?_) rfl rfl (by kernel_rfl) (by kernel_rfl) (by kernel_rfl) (fun _ _ _ h => h) (by rfl) (by assumption) ?_ ?_
        rotate_left
        · intro w' hSw; obtain ⟨x0, x1⟩ := hSw; go_simp; (try rw [if_neg (by omega)]); try exact rfl
        try simp only [List.setIfInBounds_toArray, List.set_cons_zero, List.set_cons_succ]
        refine takeYes (i := 5) (d := 21) (v := ?_) rfl rfl (by kernel_rfl) (by kernel_rfl) (by kernel_rfl) (fun _ _ _ h => h) (by rfl) (by assumption) ?_ ?_
        rotate_left
        · intro w' hSw; obtain ⟨x0, x1⟩ := hSw; go_simp; (try rw [if_neg (by omega)]); try exact rfl
        try simp only [List.setIfInBounds_toArray, List.set_cons_zero, List.set_cons_succ]
        refine wpAnyH_ready (rs := [2]) (by kernel_rfl) (by simp) ?_
        refine AllReadyH.cons rfl (fun K hK => ?_) AllReadyH.nil
        go_simp
        go_at_call 13
        refine Calls.mono (hD _ (by repeat (first | (with_reducible exact Below.refl _ _) | (with_reducible refine Below.drew ?_) | (with_reducible refine Below.alloc ?_ ?hh _; case hh => first | (simp; done) | (simp; omega) | omega) | (with_reducible refine Below.setCell ?_ ?hh _; case hh => first | (simp; done) | (simp; omega) | omega) | refine bstep (by assumption) (by first | (simp; done) | (simp; omega) | omega) ?_))) ?_
        rintro e w2 ⟨rfl, hb2⟩
        have hz2 := hb2.size
        (try simp at hz2)
        try go_wp2_with fail
        refine hK.out _ _ ?_ (fun hHeld2 => ?_)
        · exact hX2.keep (by repeat (first | (with_reducible exact Below.refl _ _) | (with_reducible refine Below.drew ?_) | (with_reducible refine Below.alloc ?_ ?hh _; case hh => first | (simp; done) | (simp; omega) | omega) | (with_reducible refine Below.setCell ?_ ?hh _; case hh => first | (simp; done) | (simp; omega) | omega) | refine bstep (by assumption) (by first | (simp; done) | (simp; omega) | omega) ?_))
        clear hK
        refine takeYes (i := 3) (d := 19) (v := ?_) rfl rfl (by kernel_rfl) (by kernel_rfl) (by kernel_rfl) (fun _ _ _ h => h) (by rfl) (by assumption) ?_ ?_
        rotate_left
        · intro w' hSw; obtain ⟨x0, x1⟩ := hSw; go_simp; (try rw [if_neg (by omega)]); try exact rfl
        try simp only [List.setIfInBounds_toArray, List.set_cons_zero, List.set_cons_succ]
        refine wpAnyH_ready (rs := [6]) (by kernel_rfl) (by simp) ?_
        refine AllReadyH.cons rfl (fun K hK => ?_) AllReadyH.nil
        go_simp
        go_at_call 40
        refine Calls.mono (hRT _ (by repeat (first | (with_reducible exact Below.refl _ _) | (with_reducible refine Below.drew ?_) | (with_reducible refine Below.alloc ?_ ?hh _; case hh => first | (simp; done) | (simp; omega) | omega) | (with_reducible refine Below.setCell ?_ ?hh _; case hh => first | (simp; done) | (simp; omega) | omega) | refine bstep (by assumption) (by first | (simp; done) | (simp; omega) | omega) ?_))) ?_
        rintro e w3 ⟨rfl, hb3⟩
        have hz3 := hb3.size
        (try simp at hz3)
        try go_wp2_with fail
        refine hK.out _ _ ?_ (fun hHeld6 => ?_)
        · exact hX2.keep (by repeat (first | (with_reducible exact Below.refl _ _) | (with_reducible refine Below.drew ?_) | (with_reducible refine Below.alloc ?_ ?hh _; case hh => first | (simp; done) | (simp; omega) | omega) | (with_reducible refine Below.setCell ?_ ?hh _; case hh => first | (simp; done) | (simp; omega) | omega) | refine bstep (by assumption) (by first | (simp; done) | (simp; omega) | omega) ?_))
        clear hK
        refine takeYes (i := 7) (d := 23) (v := ?_) rfl rfl (by kernel_rfl) (by kernel_rfl) (by kernel_rfl) (fun _ _ _ h => h) (by rfl) (by assumption) ?_ ?_
        rotate_left
        · intro w' hSw; obtain ⟨x0, x1⟩ := hSw; go_simp; (try rw [if_neg (by omega)]); try exact rfl
        try simp only [List.setIfInBounds_toArray, List.set_cons_zero, List.set_cons_succ]
        refine takeYes (i := 8) (d := 24) (v := ?_) rfl rfl (by kernel_rfl) (by kernel_rfl) (by kernel_rfl) (fun _ _ _ h => h) (by rfl) (by assumption) ?_ ?_
        rotate_left
        · intro w' hSw; obtain ⟨x0, x1⟩ := hSw; go_simp; (try rw [if_neg (by omega)]); try exact rfl
        try simp only [List.setIfInBounds_toArray, List.set_cons_zero, List.set_cons_succ]
        refine wpAnyH_ready (rs := [9]) (by kernel_rfl) (by simp) ?_
        refine AllReadyH.cons rfl (fun K hK => ?_) AllReadyH.nil
        go_simp
        have hX3 := hX2.keep (w' := w3) (by repeat (first | (with_reducible exact Below.refl _ _) | (with_reducible refine Below.drew ?_) | (with_reducible refine Below.alloc ?_ ?hh _; case hh => first | (simp; done) | (simp; omega) | omega) | (with_reducible refine Below.setCell ?_ ?hh _; case hh => first | (simp; done) | (simp; omega) | omega) | refine bstep (by assumption) (by first | (simp; done) | (simp; omega) | omega) ?_))
        have belW : Below wr.heap.size wr w3 := (by repeat (first | (with_reducible exact Below.refl _ _) | (with_reducible refine Below.drew ?_) | (with_reducible refine Below.alloc ?_ ?hh _; case hh => first | (simp; done) | (simp; omega) | omega) | (with_reducible refine Below.setCell ?_ ?hh _; case hh => first | (simp; done) | (simp; omega) | omega) | refine bstep (by assumption) (by first | (simp; done) | (simp; omega) | omega) ?_))
        have hB3 := isBuilder_belowT hB (w' := w3) belW
        go_at_call 39
        refine Calls.mono (wstr_g w1.heap.size w1.heap.size wr.heap.size _ _ w3 hB3 hl1 (by omega) (by omega) (by omega) (fun v hv => by rw [(bcell belW).1 _ _ hsz] at hv; exact hvb v hv)) ?_
        rintro e w4 ⟨rfl, hB4, hb4, hg4⟩
        have hz4 := hb4.size
        try go_wp2_with fail
        refine hK.out _ _ ?_ (fun hHeld9 => ?_)
        · exact hX3.of_block hg4
        clear hK
        refine wpAnyH_done (by kernel_rfl) ?_ _
        go_wp2
        go_roundw
        case rel =>
          refine ⟨k + 1, hlt, by simp, hb.trans ((belW.mono hzb).trans hb4), .inr ?_⟩
          · rw [HX.out, Lib.byteCells_append, ← HC.out]
            exact hB4
        case measure => simp [intOf]; omega
      · clear ha hw
        obtain rfl : k = cs.length := by omega
        rw [List.take_length] at hB
        go_wp2_with fail
        refine Calls.mono (Tryd.Builder_String_any w1.heap.size w1.heap.size (bagT cs) wr hB hzb) ?_
        rintro e w2 ⟨rfl, hb2⟩
        have bel2 : Below w.heap.size w w2 := bel1.trans ((hb.trans hb2).mono bel1.size)
        clear hb2
        go_wp2
        go_returns
        exact ⟨by rw [hp.out]; rfl, bel2⟩
end Go.Proofs.YtajlmgacmhimgaaDoor
