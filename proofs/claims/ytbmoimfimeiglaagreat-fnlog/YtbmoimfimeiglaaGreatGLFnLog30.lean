/- Own texts, joined: contracts that the law's proof goes by. -/
import Derived.Test.YtbmoimfimeiglaaGreatGLFnLog4
import Derived.Test.YtbmoimfimeiglaaGreatGLFnLog7
import Derived.Handy
import Derived.Maps.AppendAt
import Derived.BigQuiet
import Derived.Test.YtbmoimfimeiglaaGreatGLFnLog21
import Derived.Test.YtbmoimfimeiglaaGreatGLFnLog27
import Derived.Deep.RegionHeld3
namespace Go.Proofs.YtbmoimfimeiglaaGreat
open Go.RowKit Go.Deep
set_option linter.unusedVariables false
structure Ct (w : World) (C E cap : Nat) (s : ByteArray) (q : Nat × Bool) (xs : List Int) : Prop where
  blk : w.heap[C]? = some (.cells #[.string s, .int .i64 q.1, .slice (some ⟨E, 0, none⟩) xs.length cap, .bool q.2] 60 (0, 0))
  own : w.ownsRow 0 3 1 (.slice (some ⟨E, 0, none⟩) xs.length cap) xs.length (xs.map (Value.int .i64))
section
variable {w w' : World} {C E cap : Nat} {s : ByteArray} {q : Nat × Bool} {xs : List Int}
theorem heap_lt {b : Nat} {o : Obj} (h : w.heap[b]? = some o) : b < w.heap.size := by
  rcases Nat.lt_or_ge b w.heap.size with h' | h'
  · exact h'
  · simp [Array.getElem?_eq_none h'] at h
theorem Ct.ltC (h : Ct w C E cap s q xs) : C < w.heap.size := heap_lt h.blk
theorem Ct.ltE (h : Ct w C E cap s q xs) : E < w.heap.size := (ownsRow_lt h.own E rfl).2
theorem Ct.ne (h : Ct w C E cap s q xs) : C ≠ E := by
  rintro rfl
  rcases h.own.2 with ⟨h1, _⟩ | ⟨g, c, cur, h1, _, hc, _⟩
  · cases h1
  · injection h1 with e1 _ _
    injection e1 with e1
    injection e1 with e1
    subst e1
    have h2 := h.blk
    rw [hc] at h2
    simp at h2
theorem Ct.keep (h : Ct w C E cap s q xs) (hC : w'.heap[C]? = w.heap[C]?) (hE : w'.heap[E]? = w.heap[E]?) : Ct w' C E cap s q xs :=
  ⟨hC.trans h.blk, ownsRow_keep h.own fun b hv => by cases hv; exact hE⟩
theorem Ct.below (h : Ct w C E cap s q xs) (hb : Below w.heap.size w w') : Ct w' C E cap s q xs := h.keep (hb.block _ h.ltC) (hb.block _ h.ltE)
theorem Ct.cells (h : Ct w C E cap s q xs) : w.cell? ⟨C, 0, none⟩ = some (.string s) ∧ w.cell? ⟨C, 1, none⟩ = some (.int .i64 q.1) ∧ w.cell? ⟨C, 2, none⟩ = some (.slice (some ⟨E, 0, none⟩) xs.length cap) ∧ w.cell? ⟨C, 3, none⟩ = some (.bool q.2) ∧ ∀ i, w.frozen? ⟨C, i, none⟩ = false := by
  refine ⟨?_, ?_, ?_, ?_, fun i => Lib.frozen_of_heap h.blk i⟩ <;> (rw [Lib.cell_of_heap h.blk]; rfl)
theorem Ct.end (h : Ct w C E cap s q xs) {i : Nat} {x : Int} (hx : xs[i]? = some x) : w.cell? ⟨E, i, none⟩ = some (.int .i64 x) := by
  have := World.ownsRow.cells h.own (g := E) rfl i (.int .i64 x) (by simp [hx])
  have e : ((⟨E, 0, none⟩ : Addr).add i) = ⟨E, i, none⟩ := by unfold Addr.add; split <;> simp_all
  rwa [e] at this
theorem Ct.room (h : Ct w C E cap s q xs) : xs.length ≤ cap ∧ cap ≤ maxLen := by
  rcases h.own.2 with ⟨h1, _⟩ | ⟨g, c, cur, h1, _, hc, h2, h3, _⟩
  · cases h1
  · injection h1 with e1 _ e3
    subst e3
    exact ⟨h2, h3⟩
theorem set_blk {P i : Nat} {cs : Array Value} {v : Value} {t : TypeId} (h : w.heap[P]? = some (.cells cs t (0, 0))) : (w.setCell ⟨P, i, none⟩ v).heap[P]? = some (.cells (cs.setIfInBounds i v) t (0, 0)) := by
  simp [World.setCell, Array.getElem?_modify, h]
theorem Ct.setE (h : Ct w C E cap s q xs) (i : Nat) (v : Value) : (w.setCell ⟨C, i, none⟩ v).heap[E]? = w.heap[E]? := Below.heap_setCell _ _ _ _ (fun e => h.ne e.symm)
theorem Ct.at (h : Ct w C E cap s q xs) (a : Nat) : Ct (w.setCell ⟨C, 1, none⟩ (.int .i64 a)) C E cap s (a, q.2) xs :=
  ⟨by rw [set_blk h.blk]; rfl, ownsRow_keep h.own fun b hv => by cases hv; exact h.setE _ _⟩
theorem Ct.torn (h : Ct w C E cap s q xs) (b : Bool) : Ct (w.setCell ⟨C, 3, none⟩ (.bool b)) C E cap s (q.1, b) xs :=
  ⟨by rw [set_blk h.blk]; rfl, ownsRow_keep h.own fun b hv => by cases hv; exact h.setE _ _⟩
theorem Ct.pop {x : Int} (h : Ct w C E cap s q (xs ++ [x])) : Ct (w.setCell ⟨C, 2, none⟩ (.slice (some ⟨E, 0, none⟩) xs.length cap)) C E cap s q xs := by
  refine ⟨by rw [set_blk h.blk]; rfl, ?_⟩
  have h0 := h.own
  have hE := h.setE 2 (.slice (some ⟨E, 0, none⟩) xs.length cap)
  refine ⟨by simp, .inr ?_⟩
  rcases h0.2 with ⟨h1, _⟩ | ⟨g, c, cur, h1, hg, hc, h2, h3, h4, h5⟩
  · cases h1
  · injection h1 with e1 _ e3
    injection e1 with e1
    injection e1 with e1
    subst e1 e3
    refine ⟨E, cap, cur, rfl, hg, hE.trans hc, by simp at h2; omega, h3, h4, ?_⟩
    have h6 := congrArg (List.take (xs.length * 1)) h5
    rw [List.take_take] at h6
    rw [show min (xs.length * 1) ((xs ++ [x]).length * 1) = xs.length * 1 by simp] at h6
    rw [h6]
    simp
theorem Ct.eqQ {q' : Nat × Bool} (h : Ct w C E cap s q xs) (e : q = q') : Ct w C E cap s q' xs := e ▸ h
end
structure Kc (C E : Nat) (w w' : World) : Prop where
  os : w'.os = w.os
  tape : w'.tape = w.tape
  output : w'.output = w.output
  size : w.heap.size ≤ w'.heap.size
  block : ∀ k, k < w.heap.size → k ≠ C → k ≠ E → w'.heap[k]? = w.heap[k]?
section
variable {w w' w1 w2 : World} {C E E' : Nat}
theorem Kc.refl (C E : Nat) (w : World) : Kc C E w w := ⟨rfl, rfl, rfl, Nat.le_refl _, fun _ _ _ _ => rfl⟩
theorem Kc.of_below (h : Below w.heap.size w w') : Kc C E w w' := ⟨h.os, h.tape, h.output, h.size, fun k hk _ _ => h.block k hk⟩
theorem Kc.trans (h : Kc C E w w1) (k : Kc C E' w1 w2) (he : E' = E ∨ w.heap.size ≤ E') : Kc C E w w2 :=
  ⟨k.os.trans h.os, k.tape.trans h.tape, k.output.trans h.output, Nat.le_trans h.size k.size, fun i hi h1 h2 => (k.block i (Nat.lt_of_lt_of_le hi h.size) h1 (by rcases he with rfl | he; exact h2; omega)).trans (h.block i hi h1 h2)⟩
theorem Kc.setCell (h : Kc C E w w') (i : Nat) (u : Value) : Kc C E w (w'.setCell ⟨C, i, none⟩ u) :=
  ⟨h.os, h.tape, h.output, by simpa using h.size, fun k hk h1 h2 => (Below.heap_setCell _ _ _ _ h1).trans (h.block k hk h1 h2)⟩
theorem Kc.below {N : Nat} (h : Kc C E w w') (hC : N ≤ C) (hE : N ≤ E) (hN : N ≤ w.heap.size) : Below N w w' :=
  ⟨h.os, h.tape, h.output, h.size, fun k hk => h.block k (by omega) (by omega) (by omega)⟩
theorem Kc.drewN (h : Kc C E w w') (n : Nat) : Kc C E w (w'.drewN n) := ⟨h.os, h.tape, h.output, h.size, h.block⟩
theorem Kc.cell (h : Kc C E w w') {b i : Nat} (hb : b < w.heap.size) (h1 : b ≠ C) (h2 : b ≠ E) : w'.cell? ⟨b, i, none⟩ = w.cell? ⟨b, i, none⟩ := cell_blk (h.block b hb h1 h2)
theorem Kc.frozen (h : Kc C E w w') {b i : Nat} (hb : b < w.heap.size) (h1 : b ≠ C) (h2 : b ≠ E) : w'.frozen? ⟨b, i, none⟩ = w.frozen? ⟨b, i, none⟩ := frozen_blk (h.block b hb h1 h2)
end
theorem Ct.drewN {w : World} {C E cap : Nat} {s : ByteArray} {q : Nat × Bool} {xs : List Int} (h : Ct w C E cap s q xs) (n : Nat) : Ct (w.drewN n) C E cap s q xs := h.keep rfl rfl
set_option maxHeartbeats 2000000 in
set_option maxRecDepth 100000 in
theorem top_any (C E cap : Nat) (s : ByteArray) (q : Nat × Bool) (xs : List Int) (x : Int) (w : World) (h : Ct w C E cap s q (xs ++ [x])) :
    Calls Tryz.prog 89 #[.pointer (some ⟨C, 2, none⟩)] w fun e w' => e = .returned (.int .i64 x) ∧ ∃ m, w' = w.drewN m := by
  obtain ⟨_, _, c2, _, _⟩ := h.cells
  have cE := h.end (i := xs.length) (x := x) (by simp)
  have hcap := h.room
  unfold maxLen at hcap
  simp only [List.length_append, List.length_cons, List.length_nil, Nat.zero_add] at c2 hcap
  generalize xs.length = n at *
  clear h
  go_enter Tryz.func89, Tryz.ntmps89
  go_wp2_with fail
  go_quiet (fail)
  all_goals go_wp2
  all_goals go_returns
  all_goals exact ⟨rfl, _, rfl⟩
set_option maxHeartbeats 2000000 in
set_option maxRecDepth 100000 in
theorem left_any (C E cap : Nat) (s : ByteArray) (q : Nat × Bool) (xs : List Int) (e : Nat) (w : World) (h : Ct w C E cap s q (xs ++ [(e : Int)])) (hq : q.1 ≤ e) (he : e ≤ s.size) :
    Calls Tryz.prog 60 #[.pointer (some ⟨C, 0, none⟩)] w fun r w' => r = .returned (.string (s.extract q.1 e)) ∧ ∃ m, w' = w.drewN m := by
  obtain ⟨c0, c1, _, _, _⟩ := h.cells
  have hqI : (q.1 : Int) ≤ (e : Int) := by omega
  have heI : (e : Int) ≤ (s.size : Int) := by omega
  go_enter Tryz.func60, Tryz.ntmps60
  go_wp2_with fail
  go_quiet (first | (go_at_call 89; refine Calls.quiet_of (top_any C E cap s q xs e _ (h.drewN _))) | fail)
  all_goals go_wp2
  all_goals go_returns
  all_goals exact ⟨rfl, _, rfl⟩
theorem run_append_in {P : Program} {w : World} {t ty e : TypeId} {i : TypeInfo} (ht : P.underlying t = some (.slice e)) (hi : P.info? e = some i) (hs : i.size = 1) {g n cap : Nat} {xs : List Value} (hown : w.ownsRow 0 e 1 (.slice (some ⟨g, 0, none⟩) n cap) n xs)
    (a : Addr) (c : Nat) (x : Value) (hx : w.cell? a = some x) (h1 : x.oneCell' = true) (hroom : n + 1 ≤ cap) :
    ∃ w', (Builtin.append_ #[t, t] ty #[.slice (some ⟨g, 0, none⟩) n cap, .slice (some a) 1 c]).run P w = .ok (.slice (some ⟨g, 0, none⟩) (n + 1) cap) w' ∧ w'.ownsRow 0 e 1 (.slice (some ⟨g, 0, none⟩) (n + 1) cap) (n + 1) (xs ++ [x]) ∧ w.grownBy w' (some g) := by
  have hl0 := hown.1
  rcases hown.2 with ⟨h0, _⟩ | ⟨g', cap', cur, hv, hbg, hg, hnc, hcm, hcs, htake⟩
  · cases h0
  injection hv with e1 _ e3
  injection e1 with e1
  injection e1 with e1
  subst e1 e3
  have hfit : n * i.size + [x].length ≤ cur.size := by rw [hs, hcs]; simp; omega
  have hr := run_append_room (P := P) w t ty e i ht hi g n cap cur hg a 1 c [x] (by rw [hs]; rfl) (by
    intro j u hj
    match j, hj with
    | 0, hj =>
      simp at hj
      subst hj
      have e0 : a.add 0 = a := by unfold Addr.add; split <;> simp_all
      rw [e0]; exact hx) (by intro u hu; rcases List.mem_singleton.1 hu with rfl; exact h1) hroom hfit
  refine ⟨_, hr, ⟨by simp [hl0], .inr ⟨g, cap, _, rfl, hbg, setRow_heap w g cur _ e _ hg, hroom, hcm, ?_, ?_⟩⟩, ⟨rfl, rfl, rfl, by simp, fun k _ hk => setRow_other w g k _ (fun e => hk (by simp [e]))⟩⟩
  · simp only [List.size_toArray, List.length_append, List.length_take, List.length_drop, Array.length_toList, hs]
    simp only [List.length_cons, List.length_nil]
    omega
  · have hlen : (xs ++ [x]).length = (n + 1) * 1 := by simp [hl0]
    rw [hs, htake, ← hlen]
    exact List.take_left
theorem wpList_append_in {P : Program} {w : World} {ops : Array Oper} {rest : List Oper} {o : Oper} {a : Act} {Q : Exit → Act → World → Prop} (hgd : o.guard = none) (s x : Operand) (t : TypeId)
    (ho : o.op = .call { callee := .builtin .append, args := #[s, x], argTypes := #[t, t] }) {e : TypeId} {i : TypeInfo} (ht : P.underlying t = some (.slice e)) (hi : P.info? e = some i) (hsz : i.size = 1)
    {g n cap : Nat} {xs : List Value} (hs : a.eval s = .slice (some ⟨g, 0, none⟩) n cap) (hown : w.ownsRow 0 e 1 (.slice (some ⟨g, 0, none⟩) n cap) n xs) (ad : Addr) (c : Nat) (y : Value) (hx : a.eval x = .slice (some ad) 1 c) (hy : w.cell? ad = some y) (h1 : y.oneCell' = true) (hroom : n + 1 ≤ cap)
    (h : ∀ w', w'.ownsRow 0 e 1 (.slice (some ⟨g, 0, none⟩) (n + 1) cap) (n + 1) (xs ++ [y]) → w.grownBy w' (some g) → wpList P ops Q rest (a.put o.dst (.slice (some ⟨g, 0, none⟩) (n + 1) cap)) w') :
    wpList P ops Q (o :: rest) a w := by
  refine wpList_plain hgd fun K hK => ?_
  obtain ⟨w', hr, h2, h3⟩ := run_append_in (P := P) (ty := o.type) ht hi hsz hown ad c y hy h1 hroom
  unfold Oper.wp execOp
  simp only [ho, resolve, invoke, builtin, Sem.run_bind, Sem.run_pure, Result.andThen_ok, List.map_toArray, List.map_cons, List.map_nil, hs, hx, hr]
  exact hK _ _ (h w' h2 h3)
theorem Tryz.infoInt : (Tryz.prog.info? 3).map (fun i => (i.zero, i.size, i.bytes)) = some (some (.int .i64 0), 1, 8) := by kernel_rfl
def Pushed (w w' : World) (C E cap : Nat) (s : ByteArray) (q : Nat × Bool) (xs : List Int) (n : Nat) : Prop := ∃ E' cap', Ct w' C E' cap' s q xs ∧ Kc C E w w' ∧ (n + 1 ≤ cap → E' = E ∧ cap' = cap) ∧ (E' = E ∨ w.heap.size ≤ E') ∧ n + 1 ≤ cap'
set_option maxHeartbeats 2000000 in
set_option maxRecDepth 100000 in
theorem push_any (C E cap : Nat) (s : ByteArray) (q : Nat × Bool) (xs : List Int) (x : Int) (w : World) (h : Ct w C E cap s q xs) (hl : xs.length ≤ 100000) :
    Calls Tryz.prog 57 #[.pointer (some ⟨C, 2, none⟩), .int .i64 x] w fun e w' => e = .returned (.tuple #[]) ∧ Pushed w w' C E cap s q (xs ++ [x]) xs.length := by
  obtain ⟨i0, hi, hz0, hz1, hz2⟩ := info_parts Tryz.infoInt
  obtain ⟨_, _, c2, _, hf⟩ := h.cells
  have hltC := h.ltC
  have hltE := h.ltE
  have hne := h.ne
  have hbk := h.blk
  have hown := h.own
  have HO : Hid (w.ownsRow 0 3 1 (.slice (some ⟨E, 0, none⟩) xs.length cap) xs.length (xs.map (Value.int .i64))) := hown
  have hownA : (w.alloc (.cells #[.int .i64 x] 3)).ownsRow 0 3 1 (.slice (some ⟨E, 0, none⟩) xs.length cap) xs.length (xs.map (Value.int .i64)) := hown.alloc _
  have cnew : (w.alloc (.cells #[.int .i64 x] 3)).cell? ⟨w.heap.size, 0, none⟩ = some (.int .i64 x) := by rw [Lib.cell_of_heap (heap_alloc_new w _)]; rfl
  clear h hown
  have fin : ∀ (E' cap' : Nat) (w2 : World), w2.ownsRow 0 3 1 (.slice (some ⟨E', 0, none⟩) (xs.length + 1) cap') (xs.length + 1) (xs.map (Value.int .i64) ++ [.int .i64 x]) → (w.alloc (.cells #[.int .i64 x] 3)).grownBy w2 (some E) → (xs.length + 1 ≤ cap → E' = E ∧ cap' = cap) → (E' = E ∨ w.heap.size ≤ E') →
      w2.cell? ⟨C, 2, none⟩ = some (.slice (some ⟨E, 0, none⟩) xs.length cap) ∧ w2.frozen? ⟨C, 2, none⟩ = false ∧ Pushed w (w2.setCell ⟨C, 2, none⟩ (.slice (some ⟨E', 0, none⟩) (xs.length + 1) cap')) C E cap s q (xs ++ [x]) xs.length := by
    intro E' cap' w2 ho hg hr he
    have hbC : w2.heap[C]? = some (.cells #[.string s, .int .i64 q.1, .slice (some ⟨E, 0, none⟩) xs.length cap, .bool q.2] 60 (0, 0)) := by
      refine (hg.block C (by simp; omega) (fun e => hne (Option.some.inj e))).trans ?_
      rw [heap_alloc_old w _ hltC]; exact hbk
    have hCE' : E' ≠ C := by
      rintro rfl
      rcases he with e | e
      · exact hne e
      · omega
    refine ⟨by rw [Lib.cell_of_heap hbC]; rfl, Lib.frozen_of_heap hbC 2, E', cap', ⟨by rw [set_blk hbC]; simp, ?_⟩, ?_, hr, he, ?_⟩
    · have e1 : (xs ++ [x]).length = xs.length + 1 := by simp
      rw [e1, List.map_append]
      exact ownsRow_keep ho fun b hv => by cases hv; exact Below.heap_setCell _ _ _ _ hCE'
    · have hz := hg.size
      simp at hz
      refine Kc.setCell (show Kc C E w w2 from ⟨hg.os, hg.tape, hg.output, by omega, fun k hk h1 h2 => ?_⟩) 2 _
      exact (hg.block k (by simp; omega) (fun e => h2 (Option.some.inj e))).trans (heap_alloc_old w _ hk)
    · rcases ho.2 with ⟨h0, _⟩ | ⟨g, c, cur, hv, _, hc, h2, _⟩
      · cases h0
      · injection hv with _ _ e3
        subst e3
        exact h2
  have HF : Hid (∀ (E' cap' : Nat) (w2 : World), w2.ownsRow 0 3 1 (.slice (some ⟨E', 0, none⟩) (xs.length + 1) cap') (xs.length + 1) (xs.map (Value.int .i64) ++ [.int .i64 x]) → (w.alloc (.cells #[.int .i64 x] 3)).grownBy w2 (some E) → (xs.length + 1 ≤ cap → E' = E ∧ cap' = cap) → (E' = E ∨ w.heap.size ≤ E') →
      w2.cell? ⟨C, 2, none⟩ = some (.slice (some ⟨E, 0, none⟩) xs.length cap) ∧ w2.frozen? ⟨C, 2, none⟩ = false ∧ Pushed w (w2.setCell ⟨C, 2, none⟩ (.slice (some ⟨E', 0, none⟩) (xs.length + 1) cap')) C E cap s q (xs ++ [x]) xs.length) := fin
  clear fin hbk
  by_cases hroom : xs.length + 1 ≤ cap
  · go_enter Tryz.func57, Tryz.ntmps57
    go_wp2_with (at_builtin; refine wpList_append_in rfl _ _ 56 rfl Tryz.underlying56 hi hz1 rfl hownA ⟨w.heap.size, 0, none⟩ 1 (.int .i64 x) rfl cnew rfl hroom ?_)
    intro w2 ho2 hg2
    obtain ⟨d2, f2, hP⟩ := HF.out E cap w2 ho2 hg2 (fun _ => ⟨rfl, rfl⟩) (.inl rfl)
    have HP : Hid (Pushed w (w2.setCell ⟨C, 2, none⟩ (.slice (some ⟨E, 0, none⟩) (xs.length + 1) cap)) C E cap s q (xs ++ [x]) xs.length) := hP
    clear hP ho2 hg2 hownA cnew
    go_wp2
    go_end0
    exact ⟨rfl, HP.out⟩
  · go_enter Tryz.func57, Tryz.ntmps57
    go_wp2_with (at_builtin; refine wpList_append_own_at _ rfl _ _ 56 rfl 0 3 i0 (.int .i64 0) 1 8 Tryz.underlying56 hi hz0 hz1 hz2 rfl (by decide) _ _ _ rfl hownA ⟨w.heap.size, 0, none⟩ 1 1 [.int .i64 x] rfl (by simp) (cell_one_new _ _ _) ?c2 ?c3 ?c4 ?c5 ?_)
    case c2 => intro y hy; rcases List.mem_singleton.1 hy with rfl; rfl
    case c3 => unfold maxLen; omega
    case c4 => omega
    case c5 => omega
    intro v' w2 hown' hgrow _ hat
    have hs : ∃ E' cap', v' = .slice (some ⟨E', 0, none⟩) (xs.length + 1) cap' := by
      rcases hown'.2 with ⟨_, h0⟩ | ⟨g, cap', cur, hv, _⟩
      · omega
      · exact ⟨g, cap', hv⟩
    obtain ⟨E', cap', rfl⟩ := hs
    obtain ⟨d2, f2, hP⟩ := HF.out E' cap' w2 hown' hgrow (fun hh => absurd hh hroom) (by
      rcases hat with e | e
      · left; simpa [Value.ownBlock] using e
      · right; have := Option.some.inj e; simp at this; omega)
    have HP : Hid (Pushed w (w2.setCell ⟨C, 2, none⟩ (.slice (some ⟨E', 0, none⟩) (xs.length + 1) cap')) C E cap s q (xs ++ [x]) xs.length) := hP
    clear hP hown' hgrow hownA cnew hat
    go_wp2
    go_end0
    exact ⟨rfl, HP.out⟩
end Go.Proofs.YtbmoimfimeiglaaGreat
namespace Go.Proofs.YtbmoimfimeiglaaGreat
open Go.RowKit
set_option linter.unusedVariables false
set_option maxHeartbeats 1000000 in
theorem numberOf_le (s : ByteArray) (w : World) (hl1 : s.size ≤ 7) :
    Calls Tryz.prog 87 #[.string s] w fun e w' => e = .returned (.int .i64 (be s.data.toList)) ∧ w' = w := by
  have hbd : Hid (wrap64 (be s.data.toList) = be s.data.toList) := by
    have := be_bd7 s.data.toList (by simpa using hl1)
    show _ = _
    unfold wrap64; omega
  go_enter Tryz.func87, Tryz.ntmps87
  go_wp2
  go_loop [3, 4] (fun u i => ∃ k : Nat, k ≤ s.size ∧ i = .int .i64 k ∧ u = .int .u64 (be (s.data.toList.take k))) (fun _ i => s.size - (intOf i).toNat)
  case atStart => exact ⟨0, Nat.zero_le _, rfl, rfl⟩
  case round =>
    obtain ⟨k, hk, rfl, rfl⟩ := hrel
    by_cases hlt : k < s.size
    · have hb : Hid (bits BinOp.or IntKind.u64 (IntKind.u64.wrap (be (s.data.toList.take k) * 256)) (IntKind.u64.wrap s[k].toNat) = be (s.data.toList.take (k + 1))) := by
        have hb := be_bd7 (s.data.toList.take k) (by rw [List.length_take]; omega)
        show _ = _
        rw [or_byte _ _ hb.1 hb.2, take_snoc s k hlt, be_snoc]
      go_wp2
      exact ⟨⟨k + 1, by omega, by go_num, by rw [hb.out]⟩, by simp [intOf]; omega⟩
    · have hfin : Hid (s.data.toList.take k = s.data.toList) := List.take_of_length_le (by simp; omega)
      go_wp2
      go_returns
      exact ⟨ret_int (by rw [hfin.out]; exact hbd.out), rfl⟩
end Go.Proofs.YtbmoimfimeiglaaGreat
namespace Go.Proofs.YtbmoimfimeiglaaGreat
open Go.RowKit Go.Deep
set_option linter.unusedVariables false
set_option maxHeartbeats 2000000 in
set_option maxRecDepth 100000 in
theorem pop_any (C E cap : Nat) (s : ByteArray) (q : Nat × Bool) (xs : List Int) (x : Int) (w : World) (h : Ct w C E cap s q (xs ++ [x])) :
    Calls Tryz.prog 102 #[.pointer (some ⟨C, 2, none⟩)] w fun e w' => e = .returned (.int .i64 x) ∧ Ct w' C E cap s q xs ∧ Kc C E w w' := by
  go_enter Tryz.func102, Tryz.ntmps102
  go_wp2_with fail
  refine Calls.mono (top_any C E cap s q xs x w h) ?_
  rintro e w1 ⟨rfl, m, rfl⟩
  have hA := h.drewN m
  have hK : Kc C E w (w.drewN m) := (Kc.refl C E w).drewN m
  have hcap := h.room
  generalize w.drewN m = w1 at *
  obtain ⟨_, _, c2, _, hf⟩ := hA.cells
  have f2 := hf 2
  unfold maxLen at hcap
  simp only [List.length_append, List.length_cons, List.length_nil, Nat.zero_add] at c2 hcap
  have HC : Hid (∀ k : Nat, Ct ((w1.drewN k).setCell ⟨C, 2, none⟩ (.slice (some ⟨E, 0, none⟩) xs.length cap)) C E cap s q xs ∧ Kc C E w ((w1.drewN k).setCell ⟨C, 2, none⟩ (.slice (some ⟨E, 0, none⟩) xs.length cap))) := fun k =>
    ⟨(hA.drewN k).pop, (hK.drewN k).setCell 2 _⟩
  clear hA h hf
  generalize xs.length = n at *
  go_wp2_with fail
  go_region
  all_goals go_wp2
  all_goals go_returns
  all_goals exact ⟨rfl, HC.out _⟩
set_option maxHeartbeats 2000000 in
set_option maxRecDepth 100000 in
theorem leave_any (C E cap : Nat) (s : ByteArray) (q : Nat × Bool) (xs : List Int) (x : Nat) (w : World) (h : Ct w C E cap s q (xs ++ [(x : Int)])) :
    Calls Tryz.prog 70 #[.pointer (some ⟨C, 0, none⟩)] w fun e w' => e = .returned (.tuple #[]) ∧ Ct w' C E cap s (q.1, q.2 || !(q.1 == x)) xs ∧ Kc C E w w' := by
  go_enter Tryz.func70, Tryz.ntmps70
  go_wp2_with fail
  refine Calls.mono (pop_any C E cap s q xs x w h) ?_
  rintro e w1 ⟨rfl, hA, hK⟩
  obtain ⟨_, c1, _, c3, hf⟩ := hA.cells
  have f3 := hf 3
  have HC : Hid (∀ b : Bool, Ct (w1.setCell ⟨C, 3, none⟩ (.bool b)) C E cap s (q.1, b) xs ∧ Kc C E w (w1.setCell ⟨C, 3, none⟩ (.bool b))) := fun b => ⟨hA.torn b, hK.setCell 3 _⟩
  clear hA hK h hf
  obtain ⟨a, t⟩ := q
  dsimp only at c1 c3 HC ⊢
  cases t
  · by_cases hx : a = x
    · have hb : (((a : Nat) : Int) == ((x : Nat) : Int)) = true := by simp [hx]
      have hb2 : (((a : Nat) : Int) != ((x : Nat) : Int)) = false := by simp [hx]
      have e0 : Hid ((false || !(a == x)) = false) := by simp [Hid, hx]
      clear hx
      go_wp2
      go_end0
      exact ⟨rfl, by have e1 := e0.out; rw [Bool.false_or] at e1; rw [e1]; exact HC.out false⟩
    · have hb : (((a : Nat) : Int) == ((x : Nat) : Int)) = false := by simp; omega
      have hb2 : (((a : Nat) : Int) != ((x : Nat) : Int)) = true := by simp; omega
      have e0 : Hid ((false || !(a == x)) = true) := by simp [Hid, hx]
      clear hx
      go_wp2
      go_end0
      exact ⟨rfl, by have e1 := e0.out; rw [Bool.false_or] at e1; rw [e1]; exact HC.out true⟩
  · have e0 : Hid ((true || !(a == x)) = true) := Bool.true_or _
    go_wp2
    go_end0
    exact ⟨rfl, HC.out true⟩
end Go.Proofs.YtbmoimfimeiglaaGreat
