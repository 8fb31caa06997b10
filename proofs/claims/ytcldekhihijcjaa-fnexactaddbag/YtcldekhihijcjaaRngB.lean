/- Own text. A range over a method value that is bound to its receiver, inside the wide fence, whose body never leaves the loop; and a drawn region inside a round. -/
import Derived.Test.YtcldekhihijcjaaLastE
import Derived.RangeFuncNested
import Derived.RangeFuncBound
import Derived.RangeFuncCalls
import Derived.RangeFuncLeaves
import Derived.Shelf.Abstract
import Derived.WalkKit
import Derived.OwnWalkIn
import Derived.TacticsInMore
import Derived.LoopNIn
import Derived.LoopIn
import Derived.OrdersIn
namespace Go.Proofs.Ytcldekhihijcjaa
open Go Go.RowKit
set_option linter.unusedVariables false
section
variable {P : Program}
/-- nothing but what O names has turned of what lay. -/
def KeptBut (O : Nat → Prop) (A B : World) : Prop := A.heap.size ≤ B.heap.size ∧ ∀ k, k < A.heap.size → ¬ O k → B.heap[k]? = A.heap[k]?
/-- what X names lies as it lay, and the world outside the heap too. -/
structure SameOn (X : Nat → Prop) (A B : World) : Prop where
  os : B.os = A.os
  tape : B.tape = A.tape
  output : B.output = A.output
  size : A.heap.size ≤ B.heap.size
  block : ∀ k, k < A.heap.size → X k → B.heap[k]? = A.heap[k]?
theorem SameOn.putObj {X : Nat → Prop} {A : World} {l : Nat} (o : Obj) (h : ¬ X l) : SameOn X A (A.putObj l o) :=
  ⟨rfl, rfl, rfl, by simp [World.putObj], fun k _ hk => World.putObj_heap_other (fun e => h (by rw [← e]; exact hk))⟩
theorem SameOn.of_grown {X : Nat → Prop} {A B : World} {row : Option Nat} (h : A.grownBy B row) (hr : ∀ r, row = some r → ¬ X r) : SameOn X A B :=
  ⟨h.os, h.tape, h.output, h.size, fun k hk hX => h.block k hk (fun e => hr k e.symm hX)⟩
theorem SameOn.of_below {X : Nat → Prop} {A B : World} (h : Below A.heap.size A B) : SameOn X A B := ⟨h.os, h.tape, h.output, h.size, fun k hk _ => h.block k hk⟩
theorem SameOn.trans {X : Nat → Prop} {A B C : World} (h : SameOn X A B) (k : SameOn X B C) : SameOn X A C :=
  ⟨k.os.trans h.os, k.tape.trans h.tape, k.output.trans h.output, Nat.le_trans h.size k.size, fun i hi hX => (k.block i (Nat.lt_of_lt_of_le hi h.size) hX).trans (h.block i hi hX)⟩
theorem KeptBut.trans {O O' : Nat → Prop} {A B C : World} (h : KeptBut O A B) (k : KeptBut O' B C) (hO : ∀ i, O' i → O i ∨ A.heap.size ≤ i) : KeptBut O A C :=
  ⟨Nat.le_trans h.1 k.1, fun i hi hn => (k.2 i (Nat.lt_of_lt_of_le hi h.1) (fun e => by rcases hO i e with h1 | h1; exact hn h1; omega)).trans (h.2 i hi hn)⟩
/-- the rounds' contract of an iterator that is called with its receiver and yield: it gives all, in an order that S tells; its rounds turn their own blocks alone (O), and it turns its own alone. -/
def SeqAll {α : Type} (P : Program) (gf : Nat) (recv : Value) (encs : α → Array Value) (Nm : Nat) (S : List α → Prop) (w : World) : Prop :=
  ∀ (l : Nat) (J : List α → (Nat → Prop) → World → Prop) (W : World), Below w.heap.size w W →
    (∀ pre O A B, J pre O A → SameOn (fun k => k < W.heap.size ∨ O k) A B → J pre O B) →
    (∀ pre O x W1, J pre O W1 → pre.length < Nm → YieldAt Fence.wide 0 P l (encs x) W1 fun e W' => e = .returned (.bool true) ∧ ∃ O', J (pre ++ [x]) O' W' ∧ KeptBut O W1 W' ∧ ∀ k, O' k → O k ∨ W1.heap.size ≤ k) →
    ∀ O, J [] O W → (∀ k, O k → k < W.heap.size) →
    CallsIn Fence.wide 0 P gf #[recv, .func (.yield l) #[] #[]] W fun e W' => (∃ v, e = .returned v) ∧ ∃ xs O', S xs ∧ J xs O' W'
/-- how a round's body ends. -/
def goesOn {α : Type} (I : List α → (Nat → Prop) → World → Prop) (xs : List α) (O : Nat → Prop) (W : World) : Exit → Act → World → Prop
  | .normal, _, W' => ∃ O', I xs O' W' ∧ KeptBut O W W' ∧ ∀ k, O' k → O k ∨ W.heap.size ≤ k
  | _, _, _ => False
set_option maxHeartbeats 1000000 in
theorem rangeBound {α : Type} {g : Operand} {ps : Array Tmp} {assign body : Code} {Q : Exit → Act → World → Prop} {a : Act} {w : World} {gf : Nat} {recv : Value}
    (hg : a.eval g = .func (.func gf) #[recv] #[]) (eg : ∀ args w, (callFunc gf args).run P w = .ok (.enter gf args) w)
    {encs : α → Array Value} {Nm : Nat} {S : List α → Prop} (hseq : SeqAll P gf recv encs Nm S w) (hps : ∀ x, (encs x).size = ps.size)
    (I : List α → (Nat → Prop) → World → Prop) (hI : ∀ pre O A B, I pre O A → SameOn (fun k => k < w.heap.size ∨ O k) A B → I pre O B) (O₀ : Nat → Prop) (hO₀ : ∀ k, O₀ k → k < w.heap.size) (h0 : I [] O₀ w)
    (Ax : α → (Nat → Prop) → Act → World → Prop) (hAx : ∀ x O a' A o, Ax x O a' A → Ax x O a' (A.putObj (w.heap.size + 1) o))
    (hassign : ∀ (l : Nat) (pre : List α) (O : Nat → Prop) (x : α) (W : World) (K : Act → World → Prop), I pre O W → w.heap.size + 2 ≤ W.heap.size → (∀ a' W', KeptBut O W W' → I pre O W' → Ax x O a' W' → K a' W') →
      assign.wpIn (Fence.wide.inRound l) 0 P (Exit.then K (fun _ _ _ => False)) { tmps := (ps.zip (encs x)).foldl (fun t (p, v) => t.setIfInBounds p v) a.tmps, defers := [] } W)
    (hbody : ∀ (l : Nat) (pre : List α) (O : Nat → Prop) (x : α) (a' : Act) (W : World), I pre O W → Ax x O a' W → w.heap.size + 2 ≤ W.heap.size → pre.length < Nm → body.wpIn (Fence.wide.inRound l) 0 P (goesOn I (pre ++ [x]) O W) a' W)
    (hdone : ∀ (D : Nat) (xs : List α) (O : Nat → Prop) (W : World), w.heap.size ≤ D → (∀ k, O k → k ≠ D) → S xs → I xs O W → W.heap[D]? = some (.deferred (some [])) → Q .normal { a with defers := { target := .collected D, args := #[] } :: a.defers } W) :
    (Code.rangeFunc g ps assign body).wpIn Fence.wide 0 P Q a w := by
  refine wpIn_rangeFunc fun fn hfn => ?_
  obtain ⟨L, hL⟩ : ∃ L : LoopState → Loop, L = fun st => { state := st, pending := none, fn, tmps := a.tmps, params := ps, assign, body, defers := w.heap.size } := ⟨_, rfl⟩
  obtain ⟨W1, hW1⟩ : ∃ W1, (w.alloc (.deferred (some []))).alloc (.loop (L .ready)) = W1 := ⟨_, rfl⟩
  have hs1 : W1.heap.size = w.heap.size + 2 := by rw [← hW1]; simp
  have hloop : W1.heap[w.heap.size + 1]? = some (.loop (L .ready)) := by
    rw [← hW1]
    have := World.alloc_heap_new (w.alloc (.deferred (some []))) (.loop (L .ready))
    rwa [World.size_alloc] at this
  have hdef : W1.heap[w.heap.size]? = some (.deferred (some [])) := by
    rw [← hW1]
    exact (Below.heap_alloc _ _ _ (by simp)).trans (World.alloc_heap_new w _)
  have hb1 : Below w.heap.size w W1 := by rw [← hW1]; exact ((Below.refl _ w).alloc (Nat.le_refl _) _).alloc (by simp) _
  have hI1 : I [] O₀ W1 := hI _ _ _ _ h0 (SameOn.of_below hb1)
  refine ⟨w.heap.size + 1, [{ target := .collected w.heap.size, args := #[] }], W1, { target := .fn (.func gf) #[], args := #[recv, .func (.yield (w.heap.size + 1)) #[] #[]] }, W1, gf, #[recv, .func (.yield (w.heap.size + 1)) #[] #[]], W1, ?_, ?_, fun _ _ => trivial, ?_, fun h => (by cases h), ?_⟩
  · rw [← hW1, hL]
    exact run_enterLoop_outer _ _ _ _ _
  · simp only [resolve, hg]
    simp [go_sem]
  · simp [invoke, go_sem, eg]
  refine (hseq (w.heap.size + 1) (fun pre O W => ∃ O1, I pre O1 W ∧ W.heap[w.heap.size + 1]? = some (.loop (L .ready)) ∧ W.heap[w.heap.size]? = some (.deferred (some [])) ∧ (∀ k, O1 k → k < w.heap.size ∨ w.heap.size + 2 ≤ k) ∧ O = fun k => O1 k ∨ k = w.heap.size + 1) W1 hb1 ?_ ?_ _ ⟨O₀, hI1, hloop, hdef, fun k hk => .inl (hO₀ k hk), rfl⟩ ?_).mono ?_
  · rintro pre O A B ⟨O1, hi, hl, hd, hO1, rfl⟩ hs
    refine ⟨O1, hI _ _ _ _ hi ⟨hs.os, hs.tape, hs.output, hs.size, fun k hk hX => hs.block k hk ?_⟩, ?_, ?_, hO1, rfl⟩
    · rcases hX with h | h
      · exact .inl (by omega)
      · exact .inr (.inl h)
    · exact (hs.block _ (Array.getElem?_eq_some_iff.1 hl).1 (.inl (by omega))).trans hl
    · exact (hs.block _ (Array.getElem?_eq_some_iff.1 hd).1 (.inl (by omega))).trans hd
  · rintro pre O x W ⟨O1, hi, hl, hk, hO1, rfl⟩ hNm
    have hlt : w.heap.size + 1 < W.heap.size := (Array.getElem?_eq_some_iff.1 hl).1
    have hno : ¬ (w.heap.size + 1 < w.heap.size ∨ O1 (w.heap.size + 1)) := fun h => by
      rcases h with h | h
      · omega
      · have := hO1 _ h; omega
    have hnd : ¬ O1 w.heap.size := fun h => by have := hO1 _ h; omega
    have hy := run_yield (P := P) (args := encs x) hl (by rw [hL]; exact hps x)
    rw [hL] at hy
    refine ⟨fn, _, assign, body, hy, roundIn_of_wpIn hfn (hassign _ pre O1 x W _ hi (by omega) fun a2 W2 hk2 hi2 hx2 => ?_)⟩
    have hl2 : W2.heap[w.heap.size + 1]? = some (.loop (L .ready)) := (hk2.2 _ hlt (fun h => hno (.inr h))).trans hl
    have hd2 : W2.heap[w.heap.size]? = some (.deferred (some [])) := (hk2.2 _ (by omega) hnd).trans hk
    have hlt2 : w.heap.size + 1 < W2.heap.size := (Array.getElem?_eq_some_iff.1 hl2).1
    refine ⟨_, run_beginRound hl2 (by rw [hL]), ?_⟩
    have hi3 : I pre O1 (W2.putObj (w.heap.size + 1) (.loop { L .ready with state := .busy })) := hI _ _ _ _ hi2 (SameOn.putObj _ hno)
    have hx3 := hAx x O1 a2 W2 (.loop { L .ready with state := .busy }) hx2
    obtain ⟨W3, hW3⟩ : ∃ W3, W2.putObj (w.heap.size + 1) (.loop { L .ready with state := .busy }) = W3 := ⟨_, rfl⟩
    rw [hW3] at hi3 hx3 ⊢
    have hs3 : W3.heap.size = W2.heap.size := by rw [← hW3]; simp [World.putObj]
    have hl3 : W3.heap[w.heap.size + 1]? = some (.loop { L .ready with state := .busy }) := by rw [← hW3]; exact World.putObj_heap_same hlt2
    have ho3 : ∀ k, k ≠ w.heap.size + 1 → W3.heap[k]? = W2.heap[k]? := fun k hk => by rw [← hW3]; exact World.putObj_heap_other hk
    have hd3 : W3.heap[w.heap.size]? = some (.deferred (some [])) := (ho3 _ (by omega)).trans hd2
    refine wpIn_mono (hbody _ pre O1 x a2 W3 hi3 hx3 (by omega) hNm) fun e a4 W4 hp => ?_
    cases e with
    | normal =>
      obtain ⟨O2, hi4, hk4, hO2⟩ := hp
      have hl4 : W4.heap[w.heap.size + 1]? = some (.loop { L .ready with state := .busy }) := (hk4.2 _ (by omega) (fun h => hno (.inr h))).trans hl3
      have hd4 : W4.heap[w.heap.size]? = some (.deferred (some [])) := (hk4.2 _ (by omega) hnd).trans hd3
      have hlt4 : w.heap.size + 1 < W4.heap.size := (Array.getElem?_eq_some_iff.1 hl4).1
      have hend := run_endRound (P := P) none hl4
      have e0 : ({ ({ L .ready with state := .busy } : Loop) with state := if (none : Option Code).isNone then .ready else .done, pending := none } : Loop) = L .ready := by rw [hL]; rfl
      rw [e0] at hend
      have hO2' : ∀ k, O2 k → k < w.heap.size ∨ w.heap.size + 2 ≤ k := fun k hk => by
        rcases hO2 k hk with h | h
        · exact hO1 k h
        · omega
      refine ⟨_, _, hend, rfl, _, ⟨O2, hI _ _ _ _ hi4 (SameOn.putObj _ ?_), World.putObj_heap_same hlt4, (World.putObj_heap_other (by omega)).trans hd4, hO2', rfl⟩, ⟨?_, fun k hk hn => ?_⟩, fun k hk => ?_⟩
      · rintro (h | h)
        · omega
        · have := hO2' _ h; omega
      · have := hk2.1; have := hk4.1; simp [World.putObj]; omega
      · have hkl : k ≠ w.heap.size + 1 := fun e => hn (.inr e)
        have hk1 : ¬ O1 k := fun h => hn (.inl h)
        rw [World.putObj_heap_other hkl, hk4.2 k (by have := hk2.1; omega) hk1, ho3 k hkl, hk2.2 k hk hk1]
      · rcases hk with h | h
        · rcases hO2 k h with h | h
          · exact .inl (.inl h)
          · exact .inr (by have := hk2.1; omega)
        · exact .inl (.inr h)
    | ret => exact hp.elim
    | exit id => exact hp.elim
    | goto t => exact hp.elim
    | panic ch => exact hp.elim
    | outgrown => exact hp.elim
  · rintro k (h | h)
    · have := hO₀ k h; omega
    · omega
  · rintro e W2 ⟨⟨v, rfl⟩, xs, O, hS, O1, hi, hl, hk, hO1, rfl⟩
    have hend := run_endLoop (P := P) hl (by rw [hL]; simp)
    have hp : (L .ready).pending = none := by rw [hL]
    rw [hp] at hend
    refine ⟨none, _, hend, ?_⟩
    exact hdone _ xs O1 _ (Nat.le_refl _) (fun k h e => by have := hO1 k h; omega) hS (hI _ _ _ _ hi (SameOn.putObj _ (by rintro (h | h); omega; have := hO1 _ h; omega))) ((World.putObj_heap_other (by omega)).trans hk)
/-! ### a drawn region inside a round, out of the walk that knows no round -/
theorem uponIn_of {o : Oper} {a : Act} {K : Act → World → Prop} {Q : Exit → Act → World → Prop} {l : Nat} {r : Result Next} (h : o.upon P a K Q r) : o.uponIn (Fence.wide.inRound l) 0 P a K Q r := by
  unfold Oper.upon at h
  split at h
  · exact h
  · exact h
  · exact h
  · exact ⟨fun h => (by cases h), CallsIn.inRound l (callsIn_wide.2 h)⟩
  · refine ⟨fun h => (by cases h), fun c cs _ => ?_⟩
    obtain ⟨v, w', r1, r2⟩ := h c cs
    exact ⟨v, w', r1, stepsIn_wide.2 r2⟩
  · exact h
  · exact h.elim
def noDefer (ops : Array Oper) : Bool := ops.all fun o => match o.op with | .defer _ => false | _ => true
theorem noDefer_spec {ops : Array Oper} (h : noDefer ops = true) {i : Nat} {o : Oper} (ho : ops[i]? = some o) (c : Call) : o.op ≠ Op.defer c := fun e => by
  obtain ⟨hi, rfl⟩ := Array.getElem?_eq_some_iff.1 ho
  have := (Array.all_eq_true.1 h) i hi
  rw [e] at this
  cases this
theorem wpAnyIn_of {md : Region.Mode} {ops : Array Oper} {Q : Exit → Act → World → Prop} {l : Nat} (hd : noDefer ops = true) (hQ : ¬ LetsOut Q) :
    ∀ (fuel : Nat) (listed : Array Bool) (a : Act) (w : World), wpAny P md ops Q fuel listed a w → wpAnyIn (Fence.wide.inRound l) 0 P md ops Q fuel listed a w
  | 0, _, _, _, h => h
  | fuel + 1, listed, a, w, h => ⟨h.1, fun i hi => by
      have h2 := h.2 i hi
      unfold wpOp at h2
      unfold wpOpIn
      cases ho : ops[i]? with
      | none =>
        simp only [ho] at h2 ⊢
        exact wpAnyIn_of hd hQ fuel _ a w h2
      | some o =>
        simp only [ho] at h2 ⊢
        split
        · rename_i hw
          rw [if_pos hw] at h2
          rcases h2 with h2 | h2
          · refine ⟨fun _ _ => trivial, ?_⟩
            rw [Oper.semAt_plain _ _ _ (noDefer_spec hd ho)]
            exact uponIn_of (Oper.wp_mono (fun a' w' h' => wpAnyIn_of hd hQ fuel _ a' w' h') h2)
          · exact absurd h2.2 hQ
        · rename_i hw
          rw [if_neg hw] at h2
          exact ⟨fun _ _ => trivial, wpAnyIn_of hd hQ fuel _ _ w h2⟩⟩
theorem startR {id : Nat} {ops : Array Oper} {Q : Exit → Act → World → Prop} {a : Act} {w : World} {l : Nat} (z : Nat) (S : World → Prop) (hd : noDefer ops = true) (hQ : ¬ LetsOut Q) (hm : P.follows .mixedOrders = true) (hS : S w.drew)
    (h : S w.drew → wpAnyE P .any ops Q S z ops.size (Array.replicate ops.size false) a w.drew) : (Code.region id ops true).wpIn (Fence.wide.inRound l) 0 P Q a w :=
  wpIn_region_any hm (wpAnyIn_of hd hQ _ _ _ _ (wpAny_of_E _ _ _ _ (h hS)))
theorem goesOn_shut {α : Type} {I : List α → (Nat → Prop) → World → Prop} {xs : List α} {O : Nat → Prop} {W : World} : ¬ LetsOut (goesOn I xs O W) := fun ⟨_, _, h⟩ => h.elim
end
end Go.Proofs.Ytcldekhihijcjaa
