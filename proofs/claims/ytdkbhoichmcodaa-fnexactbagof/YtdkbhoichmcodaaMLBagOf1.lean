/- Own texts, joined: contracts that the law's proof goes by. -/
import Derived.Test.YtdkbhoichmcodaaLastE
import Derived.RangeFuncNested
import Derived.RangeFuncBound
import Derived.RangeFuncCalls
import Derived.RangeFuncLeaves
import Derived.Shelf.Abstract
import Derived.WalkKit
import Derived.OwnWalkIn
import Derived.TacticsInMore
import Derived.LoopNIn
import Derived.LoopIn
import Derived.OrdersIn
import Derived.Test.YtdkbhoichmcodaaTalC
import Derived.Maps.RangeWalk
import Derived.RangeFuncBox
import Derived.Handy
import Derived.Test.YtdkbhoichmcodaaBofP
import Derived.Test.YtdkbhoichmcodaaRssC
import Derived.Test.YtdkbhoichmcodaaBagOkI
import Derived.Test.YtdkbhoichmcodaaTake
import Derived.Deep.RegionHeld3
import Derived.Deep.DrawnRows
import Derived.Test.YtdkbhoichmcodaaPutX
import Derived.Test.YtdkbhoichmcodaaSumP
import Derived.Test.YtdkbhoichmcodaaBagC
import Derived.Test.YtdkbhoichmcodaaMarkB
import Derived.WalkSpells
import Derived.WalkLawsBesides
import Derived.Below
import Derived.Deep.DeepCutAuto
/- Own text. A range over a method value that is bound to its receiver, inside the wide fence, whose body never leaves the loop; and a drawn region inside a round. -/
namespace Go.Proofs.Ytdkbhoichmcodaa
open Go Go.RowKit
set_option linter.unusedVariables false
section
variable {P : Program}
/-- nothing but what O names has turned of what lay. -/
def KeptBut (O : Nat → Prop) (A B : World) : Prop := A.heap.size ≤ B.heap.size ∧ ∀ k, k < A.heap.size → ¬ O k → B.heap[k]? = A.heap[k]?
/-- what X names lies as it lay, and the world outside the heap too. -/
structure SameOn (X : Nat → Prop) (A B : World) : Prop where
  os : B.os = A.os
  tape : B.tape = A.tape
  output : B.output = A.output
  size : A.heap.size ≤ B.heap.size
  block : ∀ k, k < A.heap.size → X k → B.heap[k]? = A.heap[k]?
theorem SameOn.putObj {X : Nat → Prop} {A : World} {l : Nat} (o : Obj) (h : ¬ X l) : SameOn X A (A.putObj l o) :=
  ⟨rfl, rfl, rfl, by simp [World.putObj], fun k _ hk => World.putObj_heap_other (fun e => h (by rw [← e]; exact hk))⟩
theorem SameOn.of_grown {X : Nat → Prop} {A B : World} {row : Option Nat} (h : A.grownBy B row) (hr : ∀ r, row = some r → ¬ X r) : SameOn X A B :=
  ⟨h.os, h.tape, h.output, h.size, fun k hk hX => h.block k hk (fun e => hr k e.symm hX)⟩
theorem SameOn.of_below {X : Nat → Prop} {A B : World} (h : Below A.heap.size A B) : SameOn X A B := ⟨h.os, h.tape, h.output, h.size, fun k hk _ => h.block k hk⟩
theorem SameOn.trans {X : Nat → Prop} {A B C : World} (h : SameOn X A B) (k : SameOn X B C) : SameOn X A C :=
  ⟨k.os.trans h.os, k.tape.trans h.tape, k.output.trans h.output, Nat.le_trans h.size k.size, fun i hi hX => (k.block i (Nat.lt_of_lt_of_le hi h.size) hX).trans (h.block i hi hX)⟩
theorem KeptBut.trans {O O' : Nat → Prop} {A B C : World} (h : KeptBut O A B) (k : KeptBut O' B C) (hO : ∀ i, O' i → O i ∨ A.heap.size ≤ i) : KeptBut O A C :=
  ⟨Nat.le_trans h.1 k.1, fun i hi hn => (k.2 i (Nat.lt_of_lt_of_le hi h.1) (fun e => by rcases hO i e with h1 | h1; exact hn h1; omega)).trans (h.2 i hi hn)⟩
/-- the rounds' contract of an iterator that is called with its receiver and yield: it gives all, in an order that S tells; its rounds turn their own blocks alone (O), and it turns its own alone. -/
def SeqAll {α : Type} (P : Program) (gf : Nat) (recv : Value) (encs : α → Array Value) (Nm : Nat) (S : List α → Prop) (w : World) : Prop :=
  ∀ (l : Nat) (J : List α → (Nat → Prop) → World → Prop) (W : World), Below w.heap.size w W →
    (∀ pre O A B, J pre O A → SameOn (fun k => k < W.heap.size ∨ O k) A B → J pre O B) →
    (∀ pre O x W1, J pre O W1 → pre.length < Nm → YieldAt Fence.wide 0 P l (encs x) W1 fun e W' => e = .returned (.bool true) ∧ ∃ O', J (pre ++ [x]) O' W' ∧ KeptBut O W1 W' ∧ ∀ k, O' k → O k ∨ W1.heap.size ≤ k) →
    ∀ O, J [] O W → (∀ k, O k → k < W.heap.size) →
    CallsIn Fence.wide 0 P gf #[recv, .func (.yield l) #[] #[]] W fun e W' => (∃ v, e = .returned v) ∧ ∃ xs O', S xs ∧ J xs O' W'
/-- how a round's body ends. -/
def goesOn {α : Type} (I : List α → (Nat → Prop) → World → Prop) (xs : List α) (O : Nat → Prop) (W : World) : Exit → Act → World → Prop
  | .normal, _, W' => ∃ O', I xs O' W' ∧ KeptBut O W W' ∧ ∀ k, O' k → O k ∨ W.heap.size ≤ k
  | _, _, _ => False
set_option maxHeartbeats 1000000 in
theorem rangeBound {α : Type} {g : Operand} {ps : Array Tmp} {assign body : Code} {Q : Exit → Act → World → Prop} {a : Act} {w : World} {gf : Nat} {recv : Value}
    (hg : a.eval g = .func (.func gf) #[recv] #[]) (eg : ∀ args w, (callFunc gf args).run P w = .ok (.enter gf args) w)
    {encs : α → Array Value} {Nm : Nat} {S : List α → Prop} (hseq : SeqAll P gf recv encs Nm S w) (hps : ∀ x, (encs x).size = ps.size)
    (I : List α → (Nat → Prop) → World → Prop) (hI : ∀ pre O A B, I pre O A → SameOn (fun k => k < w.heap.size ∨ O k) A B → I pre O B) (O₀ : Nat → Prop) (hO₀ : ∀ k, O₀ k → k < w.heap.size) (h0 : I [] O₀ w)
    (Ax : α → (Nat → Prop) → Act → World → Prop) (hAx : ∀ x O a' A o, Ax x O a' A → Ax x O a' (A.putObj (w.heap.size + 1) o))
    (hassign : ∀ (l : Nat) (pre : List α) (O : Nat → Prop) (x : α) (W : World) (K : Act → World → Prop), I pre O W → w.heap.size + 2 ≤ W.heap.size → (∀ a' W', KeptBut O W W' → I pre O W' → Ax x O a' W' → K a' W') →
      assign.wpIn (Fence.wide.inRound l) 0 P (Exit.then K (fun _ _ _ => False)) { tmps := (ps.zip (encs x)).foldl (fun t (p, v) => t.setIfInBounds p v) a.tmps, defers := [] } W)
    (hbody : ∀ (l : Nat) (pre : List α) (O : Nat → Prop) (x : α) (a' : Act) (W : World), I pre O W → Ax x O a' W → w.heap.size + 2 ≤ W.heap.size → pre.length < Nm → body.wpIn (Fence.wide.inRound l) 0 P (goesOn I (pre ++ [x]) O W) a' W)
    (hdone : ∀ (D : Nat) (xs : List α) (O : Nat → Prop) (W : World), w.heap.size ≤ D → (∀ k, O k → k ≠ D) → S xs → I xs O W → W.heap[D]? = some (.deferred (some [])) → Q .normal { a with defers := { target := .collected D, args := #[] } :: a.defers } W) :
    (Code.rangeFunc g ps assign body).wpIn Fence.wide 0 P Q a w := by
  refine wpIn_rangeFunc fun fn hfn => ?_
  obtain ⟨L, hL⟩ : ∃ L : LoopState → Loop, L = fun st => { state := st, pending := none, fn, tmps := a.tmps, params := ps, assign, body, defers := w.heap.size } := ⟨_, rfl⟩
  obtain ⟨W1, hW1⟩ : ∃ W1, (w.alloc (.deferred (some []))).alloc (.loop (L .ready)) = W1 := ⟨_, rfl⟩
  have hs1 : W1.heap.size = w.heap.size + 2 := by rw [← hW1]; simp
  have hloop : W1.heap[w.heap.size + 1]? = some (.loop (L .ready)) := by
    rw [← hW1]
    have := World.alloc_heap_new (w.alloc (.deferred (some []))) (.loop (L .ready))
    rwa [World.size_alloc] at this
  have hdef : W1.heap[w.heap.size]? = some (.deferred (some [])) := by
    rw [← hW1]
    exact (Below.heap_alloc _ _ _ (by simp)).trans (World.alloc_heap_new w _)
  have hb1 : Below w.heap.size w W1 := by rw [← hW1]; exact ((Below.refl _ w).alloc (Nat.le_refl _) _).alloc (by simp) _
  have hI1 : I [] O₀ W1 := hI _ _ _ _ h0 (SameOn.of_below hb1)
  refine ⟨w.heap.size + 1, [{ target := .collected w.heap.size, args := #[] }], W1, { target := .fn (.func gf) #[], args := #[recv, .func (.yield (w.heap.size + 1)) #[] #[]] }, W1, gf, #[recv, .func (.yield (w.heap.size + 1)) #[] #[]], W1, ?_, ?_, fun _ _ => trivial, ?_, fun h => (by cases h), ?_⟩
  · rw [← hW1, hL]
    exact run_enterLoop_outer _ _ _ _ _
  · simp only [resolve, hg]
    simp [go_sem]
  · simp [invoke, go_sem, eg]
  refine (hseq (w.heap.size + 1) (fun pre O W => ∃ O1, I pre O1 W ∧ W.heap[w.heap.size + 1]? = some (.loop (L .ready)) ∧ W.heap[w.heap.size]? = some (.deferred (some [])) ∧ (∀ k, O1 k → k < w.heap.size ∨ w.heap.size + 2 ≤ k) ∧ O = fun k => O1 k ∨ k = w.heap.size + 1) W1 hb1 ?_ ?_ _ ⟨O₀, hI1, hloop, hdef, fun k hk => .inl (hO₀ k hk), rfl⟩ ?_).mono ?_
  · rintro pre O A B ⟨O1, hi, hl, hd, hO1, rfl⟩ hs
    refine ⟨O1, hI _ _ _ _ hi ⟨hs.os, hs.tape, hs.output, hs.size, fun k hk hX => hs.block k hk ?_⟩, ?_, ?_, hO1, rfl⟩
    · rcases hX with h | h
      · exact .inl (by omega)
      · exact .inr (.inl h)
    · exact (hs.block _ (Array.getElem?_eq_some_iff.1 hl).1 (.inl (by omega))).trans hl
    · exact (hs.block _ (Array.getElem?_eq_some_iff.1 hd).1 (.inl (by omega))).trans hd
  · rintro pre O x W ⟨O1, hi, hl, hk, hO1, rfl⟩ hNm
    have hlt : w.heap.size + 1 < W.heap.size := (Array.getElem?_eq_some_iff.1 hl).1
    have hno : ¬ (w.heap.size + 1 < w.heap.size ∨ O1 (w.heap.size + 1)) := fun h => by
      rcases h with h | h
      · omega
      · have := hO1 _ h; omega
    have hnd : ¬ O1 w.heap.size := fun h => by have := hO1 _ h; omega
    have hy := run_yield (P := P) (args := encs x) hl (by rw [hL]; exact hps x)
    rw [hL] at hy
    refine ⟨fn, _, assign, body, hy, roundIn_of_wpIn hfn (hassign _ pre O1 x W _ hi (by omega) fun a2 W2 hk2 hi2 hx2 => ?_)⟩
    have hl2 : W2.heap[w.heap.size + 1]? = some (.loop (L .ready)) := (hk2.2 _ hlt (fun h => hno (.inr h))).trans hl
    have hd2 : W2.heap[w.heap.size]? = some (.deferred (some [])) := (hk2.2 _ (by omega) hnd).trans hk
    have hlt2 : w.heap.size + 1 < W2.heap.size := (Array.getElem?_eq_some_iff.1 hl2).1
    refine ⟨_, run_beginRound hl2 (by rw [hL]), ?_⟩
    have hi3 : I pre O1 (W2.putObj (w.heap.size + 1) (.loop { L .ready with state := .busy })) := hI _ _ _ _ hi2 (SameOn.putObj _ hno)
    have hx3 := hAx x O1 a2 W2 (.loop { L .ready with state := .busy }) hx2
    obtain ⟨W3, hW3⟩ : ∃ W3, W2.putObj (w.heap.size + 1) (.loop { L .ready with state := .busy }) = W3 := ⟨_, rfl⟩
    rw [hW3] at hi3 hx3 ⊢
    have hs3 : W3.heap.size = W2.heap.size := by rw [← hW3]; simp [World.putObj]
    have hl3 : W3.heap[w.heap.size + 1]? = some (.loop { L .ready with state := .busy }) := by rw [← hW3]; exact World.putObj_heap_same hlt2
    have ho3 : ∀ k, k ≠ w.heap.size + 1 → W3.heap[k]? = W2.heap[k]? := fun k hk => by rw [← hW3]; exact World.putObj_heap_other hk
    have hd3 : W3.heap[w.heap.size]? = some (.deferred (some [])) := (ho3 _ (by omega)).trans hd2
    refine wpIn_mono (hbody _ pre O1 x a2 W3 hi3 hx3 (by omega) hNm) fun e a4 W4 hp => ?_
    cases e with
    | normal =>
      obtain ⟨O2, hi4, hk4, hO2⟩ := hp
      have hl4 : W4.heap[w.heap.size + 1]? = some (.loop { L .ready with state := .busy }) := (hk4.2 _ (by omega) (fun h => hno (.inr h))).trans hl3
      have hd4 : W4.heap[w.heap.size]? = some (.deferred (some [])) := (hk4.2 _ (by omega) hnd).trans hd3
      have hlt4 : w.heap.size + 1 < W4.heap.size := (Array.getElem?_eq_some_iff.1 hl4).1
      have hend := run_endRound (P := P) none hl4
      have e0 : ({ ({ L .ready with state := .busy } : Loop) with state := if (none : Option Code).isNone then .ready else .done, pending := none } : Loop) = L .ready := by rw [hL]; rfl
      rw [e0] at hend
      have hO2' : ∀ k, O2 k → k < w.heap.size ∨ w.heap.size + 2 ≤ k := fun k hk => by
        rcases hO2 k hk with h | h
        · exact hO1 k h
        · omega
      refine ⟨_, _, hend, rfl, _, ⟨O2, hI _ _ _ _ hi4 (SameOn.putObj _ ?_), World.putObj_heap_same hlt4, (World.putObj_heap_other (by omega)).trans hd4, hO2', rfl⟩, ⟨?_, fun k hk hn => ?_⟩, fun k hk => ?_⟩
      · rintro (h | h)
        · omega
        · have := hO2' _ h; omega
      · have := hk2.1; have := hk4.1; simp [World.putObj]; omega
      · have hkl : k ≠ w.heap.size + 1 := fun e => hn (.inr e)
        have hk1 : ¬ O1 k := fun h => hn (.inl h)
        rw [World.putObj_heap_other hkl, hk4.2 k (by have := hk2.1; omega) hk1, ho3 k hkl, hk2.2 k hk hk1]
      · rcases hk with h | h
        · rcases hO2 k h with h | h
          · exact .inl (.inl h)
          · exact .inr (by have := hk2.1; omega)
        · exact .inl (.inr h)
    | ret => exact hp.elim
    | exit id => exact hp.elim
    | goto t => exact hp.elim
    | panic ch => exact hp.elim
    | outgrown => exact hp.elim
  · rintro k (h | h)
    · have := hO₀ k h; omega
    · omega
  · rintro e W2 ⟨⟨v, rfl⟩, xs, O, hS, O1, hi, hl, hk, hO1, rfl⟩
    have hend := run_endLoop (P := P) hl (by rw [hL]; simp)
    have hp : (L .ready).pending = none := by rw [hL]
    rw [hp] at hend
    refine ⟨none, _, hend, ?_⟩
    exact hdone _ xs O1 _ (Nat.le_refl _) (fun k h e => by have := hO1 k h; omega) hS (hI _ _ _ _ hi (SameOn.putObj _ (by rintro (h | h); omega; have := hO1 _ h; omega))) ((World.putObj_heap_other (by omega)).trans hk)
/-! ### a drawn region inside a round, out of the walk that knows no round -/
theorem uponIn_of {o : Oper} {a : Act} {K : Act → World → Prop} {Q : Exit → Act → World → Prop} {l : Nat} {r : Result Next} (h : o.upon P a K Q r) : o.uponIn (Fence.wide.inRound l) 0 P a K Q r := by
  unfold Oper.upon at h
  split at h
  · exact h
  · exact h
  · exact h
  · exact ⟨fun h => (by cases h), CallsIn.inRound l (callsIn_wide.2 h)⟩
  · refine ⟨fun h => (by cases h), fun c cs _ => ?_⟩
    obtain ⟨v, w', r1, r2⟩ := h c cs
    exact ⟨v, w', r1, stepsIn_wide.2 r2⟩
  · exact h
  · exact h.elim
def noDefer (ops : Array Oper) : Bool := ops.all fun o => match o.op with | .defer _ => false | _ => true
theorem noDefer_spec {ops : Array Oper} (h : noDefer ops = true) {i : Nat} {o : Oper} (ho : ops[i]? = some o) (c : Call) : o.op ≠ Op.defer c := fun e => by
  obtain ⟨hi, rfl⟩ := Array.getElem?_eq_some_iff.1 ho
  have := (Array.all_eq_true.1 h) i hi
  rw [e] at this
  cases this
theorem wpAnyIn_of {md : Region.Mode} {ops : Array Oper} {Q : Exit → Act → World → Prop} {l : Nat} (hd : noDefer ops = true) (hQ : ¬ LetsOut Q) :
    ∀ (fuel : Nat) (listed : Array Bool) (a : Act) (w : World), wpAny P md ops Q fuel listed a w → wpAnyIn (Fence.wide.inRound l) 0 P md ops Q fuel listed a w
  | 0, _, _, _, h => h
  | fuel + 1, listed, a, w, h => ⟨h.1, fun i hi => by
      have h2 := h.2 i hi
      unfold wpOp at h2
      unfold wpOpIn
      cases ho : ops[i]? with
      | none =>
        simp only [ho] at h2 ⊢
        exact wpAnyIn_of hd hQ fuel _ a w h2
      | some o =>
        simp only [ho] at h2 ⊢
        split
        · rename_i hw
          rw [if_pos hw] at h2
          rcases h2 with h2 | h2
          · refine ⟨fun _ _ => trivial, ?_⟩
            rw [Oper.semAt_plain _ _ _ (noDefer_spec hd ho)]
            exact uponIn_of (Oper.wp_mono (fun a' w' h' => wpAnyIn_of hd hQ fuel _ a' w' h') h2)
          · exact absurd h2.2 hQ
        · rename_i hw
          rw [if_neg hw] at h2
          exact ⟨fun _ _ => trivial, wpAnyIn_of hd hQ fuel _ _ w h2⟩⟩
theorem startR {id : Nat} {ops : Array Oper} {Q : Exit → Act → World → Prop} {a : Act} {w : World} {l : Nat} (z : Nat) (S : World → Prop) (hd : noDefer ops = true) (hQ : ¬ LetsOut Q) (hm : P.follows .mixedOrders = true) (hS : S w.drew)
    (h : S w.drew → wpAnyE P .any ops Q S z ops.size (Array.replicate ops.size false) a w.drew) : (Code.region id ops true).wpIn (Fence.wide.inRound l) 0 P Q a w :=
  wpIn_region_any hm (wpAnyIn_of hd hQ _ _ _ _ (wpAny_of_E _ _ _ _ (h hS)))
theorem goesOn_shut {α : Type} {I : List α → (Nat → Prop) → World → Prop} {xs : List α} {O : Nat → Prop} {W : World} : ¬ LetsOut (goesOn I xs O W) := fun ⟨_, _, h⟩ => h.elim
end
end Go.Proofs.Ytdkbhoichmcodaa
/- Own text. The contract of the tally's method ascending, as an iterator. -/
namespace Go.Proofs.Ytdkbhoichmcodaa
open Go.RowKit Go.Shelf
set_option linter.unusedVariables false
/-- the cells of collected rows. -/
def flatT {w : World} {b : Nat} (ss : List (RowT w b)) : List Value := ss.flatMap encT
theorem flatT_len {w : World} {b : Nat} (ss : List (RowT w b)) : (flatT ss).length = ss.length * 2 := by
  induction ss with
  | nil => rfl
  | cons x xs ih => unfold flatT at *; rw [List.flatMap_cons, List.length_append, ih, List.length_cons]; simp [encT]; omega
theorem flatT_snoc {w : World} {b : Nat} (ss : List (RowT w b)) (x : RowT w b) : flatT (ss ++ [x]) = flatT ss ++ [x.1.1, .int .i64 x.1.2.n] := by
  unfold flatT; rw [List.flatMap_append]; simp [encT]
theorem flatT_at {w : World} {b : Nat} : ∀ {ss : List (RowT w b)} {i : Nat} {x : RowT w b}, ss[i]? = some x → (flatT ss)[i * 2]? = some x.1.1 ∧ (flatT ss)[i * 2 + 1]? = some (.int .i64 x.1.2.n)
  | y :: ss, 0, x, h => by
    obtain rfl : y = x := by simpa using h
    constructor <;> simp [flatT, encT]
  | y :: ss, i + 1, x, h => by
    have ih := flatT_at (ss := ss) (i := i) (x := x) (by simpa using h)
    have e : flatT (y :: ss) = y.1.1 :: .int .i64 y.1.2.n :: flatT ss := by unfold flatT; rw [List.flatMap_cons]; rfl
    rw [e, show (i + 1) * 2 = i * 2 + 1 + 1 by omega]
    simpa using ih
theorem infoCntT : (Try.prog.info? 131).map (fun i => (i.zero, i.size, i.bytes)) = some (some (.agg #[.slice none 0 0, .int .i64 0]), 2, 32) := by kernel_rfl
structure VT where
  a : Option Addr
  l : Nat
  c : Nat
  n : Int
theorem own_cells {w : World} {N e n g cap : Nat} {xs : List Value} (h : w.ownsRow N e 2 (.slice (some ⟨g, 0, none⟩) n cap) n xs) : g < w.heap.size ∧ N ≤ g ∧ (∀ i u, xs[i]? = some u → w.cell? ⟨g, i, none⟩ = some u) ∧ ∀ o, w.frozen? ⟨g, o, none⟩ = false := by
  obtain ⟨hl, h⟩ := h
  rcases h with ⟨h, _⟩ | ⟨g', cap', cur, e1, hN, hb, h1, h2, h3, h4⟩
  · cases h
  · obtain ⟨rfl, rfl⟩ : g = g' ∧ cap = cap' := by injection e1 with e2 _ e3; injection e2 with e4; injection e4 with e5; exact ⟨e5, e3⟩
    refine ⟨(Array.getElem?_eq_some_iff.1 hb).1, hN, fun i u hu => ?_, fun o => by simp [World.frozen?, hb]⟩
    rw [← h4, List.getElem?_take] at hu
    split at hu
    · simp only [World.cell?, hb]
      simpa using hu
    · cases hu
set_option maxHeartbeats 8000000 in
set_option maxRecDepth 100000 in
theorem asc_seq (b n : Nat) (W : Int) (cs : List C2) (w : World) (hT : TalIs w b n W cs) (hn : n ≤ 4194304) (hW : W ≤ 1048576) :
    SeqAll Try.prog 98 (.map (some b)) (fun x : RowT w b => #[.agg #[x.1.1, .int .i64 x.1.2.n]]) 4194304 (fun xs => OrderedOf W cs (xs.map fun x => x.1.2)) w := by
  intro l J U hU hJ hY O hJ0 hO
  have hlb := hT.lt
  obtain ⟨D, hown0, hTD⟩ := hT
  have hown : U.ownsMap Try.prog 9 Rc b n D := hown0.kept (row := none) ⟨hU.os, hU.tape, hU.output, hU.size, fun k hk _ => hU.block k hk⟩ (by simp)
  have hsz := hown.size_le
  obtain ⟨i0, hi, hz0, hz1, hz2⟩ := info_parts infoCntT
  have hbU : b < U.heap.size := Nat.lt_of_lt_of_le hlb hU.size
  refine callsIn_wide.2 ?_
  go_enter Try.func98, Try.ntmps98
  go_wp2_with (first
    | (at_len; refine wpList_len_own _ rfl _ 68 rfl 9 131 Try.underlying68 _ b n D rfl hown ?_)
    | (at_make; refine wpList_make_own _ rfl _ _ 24 rfl U.heap.size 131 i0 _ 2 Try.underlying24 hi hz0 hz1 .i64 .i64 _ (Maps.size D) rfl rfl rfl (by rw [hz2]; omega) (by unfold maxLen; omega) (Nat.le_refl _) ?_; intro w1 hrow1 hg1)
    | (at_range; refine wpList_range_own _ rfl _ 68 rfl 9 131 (Maps.string_keyed Try.underlying9) Try.underlying68 _ b n D rfl (hown.kept hg1 (by simp)) ?_; intro w2 hrg2 hg2 hs2))
  have hs1 := hg1.size
  have hb2 : Below U.heap.size U w2 := ((Below.refl _ U).grown hg1 (Nat.le_refl _) (fun k e => by cases e)).grown hg2 hs1 (fun k e => by cases e)
  have hrow2 := ownsRow_keep hrow1 (fun k hk => hg2.block k (ownsRow_lt hrow1 k hk).2 (by simp))
  have invK : ∀ key kl, keyOf Try.prog 9 key = some kl → ∃ x : ByteArray, key = Value.string x := fun key kl h => by
    obtain ⟨s, e, _⟩ := WideMaps.string_of_keyOf Try.underlying9 h
    exact ⟨s, e⟩
  have invV : ∀ v y, Rc v = some y → ∃ p : VT, v = .agg #[.slice p.a p.l p.c, .int .i64 p.n] := fun v y h => by
    obtain ⟨a, l, c, m, e, _⟩ := Rc_inv h
    exact ⟨⟨a, l, c, m⟩, e⟩
  obtain ⟨r, hr⟩ : ∃ r, w1.heap.size = r := ⟨_, rfl⟩
  rw [hr] at hrg2 ⊢
  have hrU : U.heap.size ≤ r := by omega
  clear hrow1 hg1 hg2 hs2 hs1 hown hown0 hr hsz
  go_loopw [4] (fun y wr => ∃ (left : Lit → Bool) (cnt : Nat) (ss : List (RowT w b)) (g cap : Nat), y = .slice (some ⟨g, 0, none⟩) ss.length cap ∧ wr.ranges Try.prog 9 Rc b r n D left cnt ∧ wr.ownsRow U.heap.size 131 2 (.slice (some ⟨g, 0, none⟩) ss.length cap) ss.length (flatT ss) ∧ Below U.heap.size U wr ∧ Coll D W cs left ss ∧ ss.length + cnt ≤ n) (fun _ wr => wr.rangeLeft b r)
  case atStart => exact ⟨_, _, [], _, _, rfl, hrg2, hrow2, hb2, Coll.start hTD, by have := hrg2.owns.size_le; simpa using this⟩
  case round =>
    obtain ⟨left, cnt, ss, g, cap, rfl, hrg, hrow, hb, hC, hcn⟩ := hrel
    clear hrg2 hrow2 hb2
    obtain ⟨hgl, hgN, hcell, hfrz⟩ := own_cells hrow
    have hzb := hb.size
    have hgb : b ≠ g := by omega
    have hgr : r ≠ g := by
      rintro rfl
      obtain ⟨o, ho, hw⟩ := hrg.iter_walk
      rcases hrow.2 with ⟨e, _⟩ | ⟨g', _, cur, e, _, hc, _⟩
      · cases e
      · injection e with e1; injection e1 with e2; injection e2 with e3
        rw [← e3, ho] at hc
        cases hc; cases hw
    have hUs := hb.size
    go_wp2_with (first
      | (at_next; refine wpList_next_ranges _ rfl _ rfl 9 (Maps.string_keyed Try.underlying9) Rc (fun s : ByteArray => Value.string s) (fun p : VT => Value.agg #[.slice p.a p.l p.c, .int .i64 p.n]) invK invV b r n D left cnt rfl hrg (fun hc0 hl0 => ?_) (fun kx p kl y w3 cnt3 hkey hlk hRv hat hrg3 hlt3 hg3 hs3 hen => ?_))
      | (at_builtin; refine wpList_append_own _ rfl _ _ 24 rfl U.heap.size 131 i0 _ 2 32 Try.underlying24 hi hz0 hz1 hz2 rfl (by decide) (.slice (some ⟨g, 0, none⟩) ss.length cap) ss.length (flatT ss) rfl ?hown ⟨wr.heap.size + 1, 0, none⟩ 1 1 [.slice p.a p.l p.c, .int .i64 p.n] rfl rfl ?c1 ?c2 ?c3 ?c4 ?c5 ?_))
    case hown =>
      refine ownsRow_keep hrow fun k hk => ?_
      have h1 := ownsRow_lt hrow k hk
      rw [Below.heap_alloc _ _ _ (by simp; omega), Below.heap_alloc _ _ _ (by omega)]
      exact hg3.block k h1.2 (by simp only [Value.ownBlock, Option.some.injEq] at hk; subst hk; simp only [ne_eq, Option.some.injEq]; exact fun e => hgr e.symm)
    case c1 =>
      intro j' u hu
      match j', hu with
      | 0, hu => simp at hu; subst hu; go_simp
      | 1, hu => simp at hu; subst hu; go_simp
    case c2 => intro u hu; simp at hu; rcases hu with rfl | rfl <;> rfl
    case c3 => unfold maxLen; omega
    case c4 => omega
    case c5 => simp; omega
    · have hbw : Below b w wr := (hU.mono (Nat.le_of_lt hlb)).trans (hb.mono (Nat.le_of_lt hbU))
      have hsort := sortT_any w wr b g cap hbw (by omega) hgl ss (by omega) (fun i x hx => ⟨hcell _ _ (flatT_at hx).1, hcell _ _ (flatT_at hx).2⟩) hfrz
      refine Calls.mono hsort ?_
      rintro e w5 ⟨rfl, xs, hp, hs, hxc, ho1, ho2, ho3, hsz5, hbl5⟩
      have hord := hC.done hl0 hp hs
      have hxl : Hid (xs.length = ss.length) := hp.length_eq
      have hJ5 : J [] O w5 := hJ _ _ _ _ hJ0 ⟨ho1.trans hb.os, ho2.trans hb.tape, ho3.trans hb.output, Nat.le_trans hUs hsz5, fun k hk _ => (hbl5 k (by omega) (by omega)).trans (hb.block k hk)⟩
      have hg5 : g < w5.heap.size := by omega
      have hOg : ¬ O g := fun h => by have := hO g h; omega
      clear hsort hC hrow hcell hfrz hrg hp hs hbl5 ho1 ho2 ho3 hbw hc0 hl0
      go_wp2_with fail
      refine (wpIn_wide (n := 0)).1 ?_
      gi_loopw [26] (fun i wr => ∃ (k : Nat) (O2 : Nat → Prop), k ≤ ss.length ∧ i = .int .i64 k ∧ J (xs.take k) O2 wr ∧ wr.heap[g]? = w5.heap[g]? ∧ ¬ O2 g ∧ g < wr.heap.size) (fun i _ => ss.length - (intOf i).toNat)
      case atStart => exact ⟨0, O, Nat.zero_le _, rfl, hJ5, rfl, hOg, hg5⟩
      case round =>
        obtain ⟨k, O2, hk, rfl, hJk, hgk, hO2, hgl2⟩ := hrel
        by_cases hlt : k < ss.length
        · have hkx : k < xs.length := by rw [hxl.out]; exact hlt
          obtain ⟨x, hx⟩ : ∃ x, xs[k]? = some x := ⟨xs[k], by simp⟩
          have HT : Hid (xs.take (k + 1) = xs.take k ++ [x]) := take_snoc hx
          obtain ⟨c0, c1⟩ := hxc k x hx
          replace c0 := (cell_blk hgk).trans c0
          replace c1 := (cell_blk hgk).trans c1
          obtain ⟨⟨u, rr, nn⟩, hxB⟩ := x
          obtain ⟨ua, uc, hu⟩ : ∃ a c, u = .slice a rr.length c := by obtain ⟨⟨_, ⟨a, c, e, _⟩, _⟩, _⟩ := hxB; exact ⟨a, c, e⟩
          dsimp only at c0 c1
          subst hu
          have hJ1 := hJ _ _ _ (wr.alloc (.cells #[.slice ua rr.length uc, .int .i64 nn] 131)) hJk (SameOn.of_below ((Below.refl _ _).alloc (Nat.le_refl _) _))
          obtain ⟨fn, tmps, assign, body, hy, hR⟩ := hY _ _ ⟨(.slice ua rr.length uc, ⟨rr, nn⟩), hxB⟩ _ hJ1 (by rw [List.length_take]; omega)
          dsimp only at hy
          clear hJk hJ5 hJ0 hx hxc
          gi_wp2
          refine ⟨rfl, hR.mono ?_⟩
          rintro e W3 ⟨rfl, O3, hJ3, hkept, hO3⟩
          have hs3 := hkept.1
          simp only [World.size_alloc] at hs3
          have hg3 : W3.heap[g]? = w5.heap[g]? := (hkept.2 g (by simp; omega) hO2).trans ((Below.heap_alloc wr _ g hgl2).trans hgk)
          have hO3g : ¬ O3 g := fun h => by
            rcases hO3 g h with h | h
            · exact hO2 h
            · simp at h; omega
          clear hkept hO3 hR hy hJ1
          gi_wp2
          go_roundw
          case rel => exact ⟨k + 1, O3, hlt, by simp, by rw [HT.out]; exact hJ3, hg3, hO3g, by omega⟩
          case measure => simp [intOf]; omega
        · obtain rfl : k = ss.length := by omega
          rw [← hxl.out, List.take_length] at hJk
          clear hJ5 hJ0 hxc hY
          gi_wp2
          go_end0
          exact ⟨⟨_, rfl⟩, xs, O2, hord, hJk⟩
    · intro v4 w4 hown4 hgrow4 _
      obtain ⟨x, hx1, hx2, hC3⟩ := Coll.next hTD hW hC hlk (a := p.a) (l := p.l) (c := p.c) (m := p.n) (fun z => by rw [hat z]; have e := (Rc_mk p.a p.l p.c p.n).symm.trans hRv; exact (congrArg Prod.fst (Option.some.inj e)).symm)
      obtain ⟨g4, cap4, rfl⟩ := ownsRow_succ hown4
      have hlen : (ss ++ [x]).length = ss.length + 1 := by simp
      have hfl : flatT ss ++ [.slice p.a p.l p.c, .int .i64 p.n] = flatT (ss ++ [x]) := by rw [flatT_snoc, hx1, hx2]
      rw [hfl] at hown4
      have hrg4 := (((hrg3.alloc (.cells #[.slice p.a p.l p.c, .int .i64 p.n] 131)).alloc (.cells #[.slice p.a p.l p.c, .int .i64 p.n] 131)).kept hgrow4 (by simp [Value.ownBlock]; exact hgb) (by simp [Value.ownBlock]; exact hgr))
      have hb3 : Below U.heap.size U w3 := hb.grown hg3 hzb (fun k e => by simp at e; omega)
      have hb4 : Below U.heap.size U w4 := ((hb3.alloc (by omega) _).alloc (by simp; omega) _).grown hgrow4 (by simp; omega) (fun k e => by simp [Value.ownBlock] at e; omega)
      have hmold := hrg.left_eq
      clear hrow hcell hfrz hC hrg hrg3 hg3 hb3 hgrow4 hat hRv hkey
      go_wp2_with fail
      refine ⟨⟨_, cnt3, ss ++ [x], g4, cap4, by rw [hlen], hrg4, by rw [hlen]; exact hown4, hb4, hC3, by rw [hlen]; omega⟩, ?_⟩
      rw [hrg4.left_eq, hmold]
      exact hlt3
end Go.Proofs.Ytdkbhoichmcodaa
/- Own text. The contract of the tally's method bag. -/
namespace Go.Proofs.Ytdkbhoichmcodaa
open Go.RowKit Go.Shelf
set_option linter.unusedVariables false
attribute [local go_sem] Oper.semAt_some
/-- what stands between two rounds: the bag that is made lies in block B + 1 (B: the result's), its rows in blocks of its own. -/
def BagI {w2 : World} {b : Nat} (w : World) (X : Int) (pre : List (RowT w2 b)) (O : Nat → Prop) (A : World) : Prop :=
  ∃ (y : Value) (us : List Value) (G : List (List Nat)), A.cell? ⟨w.heap.size + 1, 0, none⟩ = some (.int .i64 X) ∧ A.cell? ⟨w.heap.size + 1, 1, none⟩ = some y ∧ (∀ q, A.frozen? ⟨w.heap.size + 1, q, none⟩ = false) ∧ A.cell? ⟨w.heap.size, 0, none⟩ = some (.int .i64 0) ∧ A.cell? ⟨w.heap.size, 1, none⟩ = some (.slice none 0 0) ∧ (∀ q, A.frozen? ⟨w.heap.size, q, none⟩ = false) ∧
    BagOwn A (w.heap.size + 1 + 1) y (pre.map fun x => x.1.2) us G ∧ Below w.heap.size w A ∧ w.heap.size + 1 + 1 ≤ A.heap.size ∧ (∀ k, y.ownBlock = some k ∨ k ∈ G.flatten → O k) ∧ O (w.heap.size + 1) ∧ ∀ k, O k → k = w.heap.size + 1 ∨ w.heap.size + 1 + 1 ≤ k ∧ k < A.heap.size
theorem bagOwn_on {A B : World} {N : Nat} {y : Value} {cs : List C2} {us : List Value} {G : List (List Nat)} (h : BagOwn A N y cs us G) (hs : A.heap.size ≤ B.heap.size) (hb : ∀ k, y.ownBlock = some k ∨ k ∈ G.flatten → B.heap[k]? = A.heap[k]?) : BagOwn B N y cs us G := by
  refine ⟨ownsRow_keep h.own fun k hk => hb k (.inl hk), h.ul, h.gl, fun i x u g hx hu hg => (h.row i x u g hx hu hg).keep hs fun k hk => hb k (.inr ?_), h.free.keep fun k hk => hb k (.inr hk), h.out⟩
  exact List.mem_flatten.2 ⟨g, List.mem_of_getElem? hg, hk⟩
theorem BagI.on {w2 : World} {b : Nat} {w : World} {X : Int} {pre : List (RowT w2 b)} {O : Nat → Prop} {A B : World} (h : BagI w X pre O A) (hs : SameOn (fun k => k < w.heap.size + 2 ∨ O k) A B) : BagI w X pre O B := by
  obtain ⟨y, us, G, p0, p1, pf, r0, r1, rf, hB, hb, hz, hO, hOb, hO2⟩ := h
  have e1 : B.heap[w.heap.size + 1]? = A.heap[w.heap.size + 1]? := hs.block _ (by omega) (.inl (by omega))
  have e0 : B.heap[w.heap.size]? = A.heap[w.heap.size]? := hs.block _ (by omega) (.inl (by omega))
  refine ⟨y, us, G, (cell_blk e1).trans p0, (cell_blk e1).trans p1, fun q => (frozen_blk e1).trans (pf q), (cell_blk e0).trans r0, (cell_blk e0).trans r1, fun q => (frozen_blk e0).trans (rf q), bagOwn_on hB hs.size fun k hk => ?_, ⟨hs.os.trans hb.os, hs.tape.trans hb.tape, hs.output.trans hb.output, Nat.le_trans hb.size hs.size, fun k hk => (hs.block k (by omega) (.inl (by omega))).trans (hb.block k hk)⟩, Nat.le_trans hz hs.size, hO, hOb, fun k hk => ?_⟩
  · have h1 : k < A.heap.size := by
      rcases hk with hk | hk
      · exact (ownsRow_lt hB.own k hk).2
      · exact hB.lt k hk
    exact hs.block k h1 (.inr (hO k hk))
  · have := hO2 k hk
    have := hs.size
    omega
theorem bagI_start {W2 : World} {b : Nat} (w : World) (X : Int) : BagI (w2 := W2) (b := b) w X [] (fun k => k = w.heap.size + 1) ((w.alloc (.cells #[.int .i64 0, .slice none 0 0] 26)).alloc (.cells #[.int .i64 X, .slice none 0 0] 26)) := by
  refine ⟨.slice none 0 0, [], [], by go_simp, by go_simp, fun q => by go_simp, by go_simp, by go_simp, fun q => by go_simp, BagOwn.nil _ _, ((Below.refl _ _).alloc (Nat.le_refl _) _).alloc (by simp) _, by simp, fun k hk => ?_, rfl, fun k hk => .inl hk⟩
  rcases hk with hk | hk
  · cases hk
  · cases hk
set_option maxHeartbeats 8000000 in
set_option maxRecDepth 100000 in
theorem bag_any (b n : Nat) (W X : Int) (cs : List C2) (w : World) (hT : TalIs w b n W cs) (hn : n ≤ 4194304) (hW : W ≤ 1048576) :
    Calls Try.prog 45 #[.map (some b), .int .i64 X] w fun e w' => (∃ ds u us G, e = .returned (.agg #[.int .i64 X, u]) ∧ OrderedOf W cs ds ∧ BagOwn w' w.heap.size u ds us G) ∧ Below w.heap.size w w' := by
  have hlb := hT.lt
  refine (callsIn_wide (n := 0)).1 ?_
  refine callsIn_of_wp_marks Try.func45 rfl trivial ?_ rfl
  simp only [Try.ntmps45, List.size_toArray, List.length_cons, List.length_nil, Nat.reduceAdd, Nat.reduceSub, Array.replicate_succ, Array.replicate_zero, List.push_toArray, List.append_toArray, List.nil_append, List.cons_append]
  gi_wp2
  obtain ⟨w2, hw2⟩ : ∃ w2, (w.alloc (.cells #[.int .i64 0, .slice none 0 0] 26)).alloc (.cells #[.int .i64 X, .slice none 0 0] 26) = w2 := ⟨_, rfl⟩
  have hs2 : w2.heap.size = w.heap.size + 2 := by rw [← hw2]; simp
  have hbw2 : Below w.heap.size w w2 := by rw [← hw2]; exact ((Below.refl _ _).alloc (Nat.le_refl _) _).alloc (by simp) _
  have hI0 : BagI (w2 := w2) (b := b) w X [] (fun k => k = w.heap.size + 1) w2 := by
    have h := bagI_start (W2 := w2) (b := b) w X
    rw [hw2] at h
    exact h
  have hT2 := hT.keep hbw2
  rw [hw2]
  clear hw2 hT
  refine rangeBound (gf := 98) (recv := .map (some b)) rfl (enters_of Try.func98 (by kernel_rfl) rfl) (asc_seq b n W cs w2 hT2 hn hW) (fun _ => rfl) (BagI w X) (fun pre O A B h hs => h.on (by rw [hs2] at hs; exact hs)) (fun k => k = w.heap.size + 1) (fun k hk => by omega) hI0
    (fun x O a' A => ∃ Bx, w.heap.size + 2 + 2 ≤ Bx ∧ Bx < A.heap.size ∧ ¬ O Bx ∧ A.cell? ⟨Bx, 0, none⟩ = some x.1.1 ∧ A.cell? ⟨Bx, 1, none⟩ = some (.int .i64 x.1.2.n) ∧ a' = { tmps := #[.map (some b), .int .i64 X, undef, undef, .pointer (some ⟨w.heap.size, 0, none⟩), .pointer (some ⟨w.heap.size + 1, 0, none⟩), .pointer (some ⟨Bx, 0, none⟩), .int .i64 X, .agg #[.int .i64 X, .slice none 0 0], .map (some b), .func (.func 98) #[.map (some b)] #[], .agg #[x.1.1, .int .i64 x.1.2.n], undef, undef, undef, undef, undef, undef, undef, undef], defers := [] }) ?hAx ?assign ?body ?done
  case hAx =>
    rintro x O a' A o ⟨Bx, h1, h2, h3, h4, h5, h6⟩
    have hne : Bx ≠ w2.heap.size + 1 := by omega
    exact ⟨Bx, h1, by simpa [World.putObj] using h2, h3, (cell_blk (World.putObj_heap_other hne)).trans h4, (cell_blk (World.putObj_heap_other hne)).trans h5, h6⟩
  case assign =>
    rintro l pre O x A K hi hz hK
    obtain ⟨⟨u, rr, nn⟩, hxB⟩ := x
    obtain ⟨ua, uc, hu⟩ : ∃ a c, u = .slice a rr.length c := by obtain ⟨⟨_, ⟨a, c, e, _⟩, _⟩, _⟩ := hxB; exact ⟨a, c, e⟩
    subst hu
    have hOA : ¬ O A.heap.size := fun h => by obtain ⟨_, _, _, _, _, _, _, _, _, _, _, _, _, _, hO2⟩ := hi; have := hO2 _ h; omega
    have hkA : KeptBut O A (A.alloc (.cells #[.slice ua rr.length uc, .int .i64 nn] 131)) := ⟨by simp, fun k hk _ => Below.heap_alloc A _ k hk⟩
    have hiA : BagI w X pre O (A.alloc (.cells #[.slice ua rr.length uc, .int .i64 nn] 131)) := hi.on (SameOn.of_below ((Below.refl _ _).alloc (Nat.le_refl _) _))
    clear hi
    gi_wp2
    refine hK _ _ hkA hiA ⟨A.heap.size, by omega, by simp, hOA, by go_simp, by go_simp, rfl⟩
  case body =>
    rintro l pre O x a' wr hi ⟨Bx, hx1, hx2, hx3, hx4, hx5, rfl⟩ hz hNm
    obtain ⟨y, us, G, p0, p1, pf, r0, r1, rf, hB, hb, hzb, hO, hOb, hO2⟩ := hi
    obtain ⟨⟨u, x⟩, ⟨g0, hR0, hg0⟩, hxn⟩ := x
    dsimp only at hR0 hxn hx4 hx5
    obtain ⟨a0, n0, rfl⟩ := hR0.shape
    have hbb : Below b w2 wr := ⟨hb.os.trans hbw2.os.symm, hb.tape.trans hbw2.tape.symm, hb.output.trans hbw2.output.symm, by omega, fun k hk => (hb.block k (by omega)).trans (hbw2.block k (by omega)).symm⟩
    have hR : RowF wr (.slice a0 x.r.length n0) x.r g0 := hR0.keep hbb.size fun k hk => hbb.block k (hg0 k hk)
    have c0 := hx4
    have c1 := hx5
    have hvl := ownsRow_lt hB.own
    have hv2 : y.ownBlock ≠ some (w.heap.size + 1) := fun e => by have := (hvl _ e).1; omega
    have hvr : y.ownBlock ≠ some w.heap.size := fun e => by have := (hvl _ e).1; omega
    have hvT : y.ownBlock ≠ some Bx := fun e => hx3 (hO Bx (.inl e))
    have hGl := hB.lt
    have hpl : (pre.map fun x => x.1.2).length = pre.length := by simp
    have HM : Hid ((pre ++ [(⟨(.slice a0 x.r.length n0, x), ⟨g0, hR0, hg0⟩, hxn⟩ : RowT w2 b)]).map (fun x => x.1.2) = (pre.map fun x => x.1.2) ++ [x]) := by simp [Hid]
    obtain ⟨i0, hi, hz0, hz1, hz2⟩ := info_parts infoCntT
    generalize hct : pre.map (fun x => x.1.2) = ct at *
    have hml : ct.length + 1 ≤ maxLen := by unfold maxLen; omega
    have hby : (ct.length + 1) * 32 ≤ 140737488355328 := by omega
    have hUf : ∀ k, O k → k = w.heap.size + 1 ∨ w.heap.size + 1 + 1 ≤ k ∧ k < wr.heap.size := hO2
    clear hx4 hx5 hI0 hT2 hpl
    gi_wp2_with fail
    refine startR 7 (fun w' => w'.cell? ⟨w.heap.size + 1, 1, none⟩ = some y ∧ w'.cell? ⟨Bx, 0, none⟩ = some (.slice a0 x.r.length n0) ∧ w'.cell? ⟨Bx, 1, none⟩ = some (.int .i64 x.n)) (by kernel_rfl) (fun h => by obtain ⟨_, _, h⟩ := h; exact h.elim) (by kernel_rfl) ?_ (fun hHeld => ?_)
    · (try dsimp only)
      exact ⟨p1, c0, c1⟩
    refine takeE (i := 0) (d := 12) (v := ?_) rfl rfl (by kernel_rfl) (by kernel_rfl) (by kernel_rfl) (by kernel_rfl) (fun _ _ _ h => h) (by rfl) (by assumption) ?_ ?_
    rotate_left
    · intro w' hSw; (try dsimp only at hSw); go_simp; try exact rfl
    try simp only [List.setIfInBounds_toArray, List.set_cons_zero, List.set_cons_succ]
    refine takeE (i := 1) (d := 13) (v := ?_) rfl rfl (by kernel_rfl) (by kernel_rfl) (by kernel_rfl) (by kernel_rfl) (fun _ _ _ h => h) (by rfl) (by assumption) ?_ ?_
    rotate_left
    · intro w' hSw; (try dsimp only at hSw); go_simp; try exact rfl
    try simp only [List.setIfInBounds_toArray, List.set_cons_zero, List.set_cons_succ]
    refine takeE (i := 2) (d := 14) (v := ?_) rfl rfl (by kernel_rfl) (by kernel_rfl) (by kernel_rfl) (by kernel_rfl) (fun _ _ _ h => h) (by rfl) (by assumption) ?_ ?_
    rotate_left
    · intro w' hSw; (try dsimp only at hSw); go_simp; try exact rfl
    try simp only [List.setIfInBounds_toArray, List.set_cons_zero, List.set_cons_succ]
    refine oneE (i := 3) (by kernel_rfl) rfl (fun K hK => ?_)
    go_simp
    go_at_call 99
    refine Calls.mono (copyCounted_any (.slice a0 x.r.length n0) x.r g0 x.n _ (hR.below ?hbb) hxn) ?_
    case hbb => exact (Below.refl _ wr).drew
    rintro e wv ⟨⟨u2, g2, rfl, hR2, hO2⟩, hb2⟩
    obtain ⟨a2, n2, rfl⟩ := hR2.shape
    have hzw2 := hb2.size
    (try simp at hzw2)
    have bel2 : Below wr.heap.size wr wv := (Below.refl _ wr).drew.trans hb2
    have hB2 := hB.below bel2
    have pf2 : ∀ q, wv.frozen? ⟨w.heap.size + 1, q, none⟩ = false := fun q => ((bcell bel2).2 _ q (by omega)).trans (pf q)
    have rf2 : ∀ q, wv.frozen? ⟨w.heap.size, q, none⟩ = false := fun q => ((bcell bel2).2 _ q (by omega)).trans (rf q)
    have p02 := ((bcell bel2).1 (w.heap.size + 1) 0 (by omega)).trans p0
    have p12 := ((bcell bel2).1 (w.heap.size + 1) 1 (by omega)).trans p1
    have r02 := ((bcell bel2).1 (w.heap.size) 0 (by omega)).trans r0
    have r12 := ((bcell bel2).1 (w.heap.size) 1 (by omega)).trans r1
    have q0 : wv.cell? ⟨Bx, 0, none⟩ = some (.slice a0 x.r.length n0) := ((bcell bel2).1 Bx 0 (by omega)).trans c0
    have q1 : wv.cell? ⟨Bx, 1, none⟩ = some (.int .i64 x.n) := ((bcell bel2).1 Bx 1 (by omega)).trans c1
    try go_wp2_with fail
    refine hK.out _ _ ?_ (fun hHeld3 => ?_)
    · intro _
      (try dsimp only)
      exact ⟨p12, q0, q1⟩
    clear hK
    replace hHeld3 := hHeld3 (by decide)
    try simp only [List.setIfInBounds_toArray, List.set_cons_zero, List.set_cons_succ]
    refine oneE (i := 4) (by kernel_rfl) rfl (fun K hK => ?_)
    go_simp
    refine hK.out _ _ ?_ (fun hHeld4 => ?_)
    · intro _
      (try dsimp only)
      exact ⟨(cell_blk (Below.heap_alloc wv _ _ (by omega))).trans p12, (cell_blk (Below.heap_alloc wv _ _ (by omega))).trans q0, (cell_blk (Below.heap_alloc wv _ _ (by omega))).trans q1⟩
    clear hK
    replace hHeld4 := hHeld4 (by decide)
    try simp only [List.setIfInBounds_toArray, List.set_cons_zero, List.set_cons_succ]
    refine oneE (i := 5) (by kernel_rfl) rfl (fun K hK => ?_)
    refine step_append_lies _ (by rfl) _ _ _ (by rfl) (w.heap.size + 1 + 1) 131 i0 _ 2 32 Try.underlying24 hi hz0 hz1 hz2 rfl (by omega) y ct.length (cc us ct) (by rfl) (hB2.own.alloc _) ⟨wv.heap.size, 0, none⟩ 1 1 [.slice a2 x.r.length n2, .int .i64 x.n] (by rfl) (by rfl) (World.news_of_block (cs := #[.slice a2 x.r.length n2, .int .i64 x.n]) (t := 131) (fr := (0, 0)) (heap_alloc_new wv _)) (by simp [Value.oneCell']) (by omega) hml hby (by simp; omega) (wv.heap.size + 1) (by simp) ?_
    intro gg cap w3 hown3 hgrow hat hlt3
    have hz3 := hgrow.size
    simp at hz3
    have far : ∀ b q, b < wv.heap.size → y.ownBlock ≠ some b → w3.cell? ⟨b, q, none⟩ = wv.cell? ⟨b, q, none⟩ := fun b q hb hne => (hgrow.cell_far _ (by simp; omega) (Ne.symm hne)).trans (cell_blk (Below.heap_alloc _ _ _ hb))
    have farf : ∀ b q, b < wv.heap.size → y.ownBlock ≠ some b → w3.frozen? ⟨b, q, none⟩ = wv.frozen? ⟨b, q, none⟩ := fun b q hb hne => (hgrow.frozen_far _ (by simp; omega) (Ne.symm hne)).trans (frozen_blk (Below.heap_alloc _ _ _ hb))
    have pf3 : ∀ q, w3.frozen? ⟨w.heap.size + 1, q, none⟩ = false := fun q => (farf _ q (by omega) hv2).trans (pf2 q)
    have rf3 : ∀ q, w3.frozen? ⟨w.heap.size, q, none⟩ = false := fun q => (farf _ q (by omega) hvr).trans (rf2 q)
    have p03 := (far (w.heap.size + 1) 0 (by omega) hv2).trans p02
    have p13 := (far (w.heap.size + 1) 1 (by omega) hv2).trans p12
    have r03 := (far (w.heap.size) 0 (by omega) hvr).trans r02
    have r13 := (far (w.heap.size) 1 (by omega) hvr).trans r12
    have hBp := BagOwn.push (hB2.below ((Below.refl _ _).alloc (Nat.le_refl _) (.cells #[.slice a2 x.r.length n2, .int .i64 x.n] 131))) (hR2.below ((Below.refl _ _).alloc (Nat.le_refl _) _)) ⟨hO2.1, fun b hb => by have := hO2.2.1 b hb; simp at this; omega, fun b hb q => (frozen_blk (Below.heap_alloc _ _ _ (hR2.lt b hb))).trans (hO2.2.2 b hb q)⟩ (fun b hb hb' => by have := hO2.2.1 b hb'; have := hGl b hb; simp at *; omega) (fun b hb hb' => by have := hO2.2.1 b hb'; have := (ownsRow_lt hB.own b hb).2; simp at *; omega) hown3 hgrow (fun b hb => by simp [Value.ownBlock] at hb; subst hb; rcases hat with h | h; exact .inl h; exact .inr (by simp; omega))
    have far1 := far Bx 0 (by omega) hvT
    have far2 := far Bx 1 (by omega) hvT
    have bel3 : Below w.heap.size w w3 := Below.grown (hb.trans (bel2.mono hb.size) |>.alloc (by omega) _) hgrow (by simp; omega) (fun b hb => by have := (ownsRow_lt hB.own b hb).1; omega)
    refine hK.out _ _ ?_ (fun hHeld5 => ?_)
    · intro _
      (try dsimp only)
      exact ⟨p13, far1.trans q0, far2.trans q1⟩
    clear hK
    replace hHeld5 := hHeld5 (by decide)
    try simp only [List.setIfInBounds_toArray, List.set_cons_zero, List.set_cons_succ]
    refine takeE (i := 6) (d := 18) (v := ?_) rfl rfl (by kernel_rfl) (by kernel_rfl) (by kernel_rfl) (by kernel_rfl) (fun _ _ _ h => h) (by rfl) (by assumption) ?_ ?_
    rotate_left
    · intro w' hSw; (try dsimp only at hSw); go_simp; try exact rfl
    try simp only [List.setIfInBounds_toArray, List.set_cons_zero, List.set_cons_succ]
    refine oneE (i := 7) (by kernel_rfl) rfl (fun K hK => ?_)
    go_simp
    refine hK.out _ _ ?_ (fun hHeld7 => ?_)
    · exact fun h => absurd rfl h
    clear hK hHeld7
    try simp only [List.setIfInBounds_toArray, List.set_cons_zero, List.set_cons_succ]
    refine doneE (by kernel_rfl) ?_ _
    have P0 : (w3.setCell ⟨w.heap.size + 1, 1, none⟩ (.slice (some ⟨gg, 0, none⟩) (ct.length + 1) cap)).cell? ⟨w.heap.size + 1, 0, none⟩ = some (.int .i64 X) := (World.cell?_setCell_other _ _ _ _ (by simp)).trans p03
    have P1 : (w3.setCell ⟨w.heap.size + 1, 1, none⟩ (.slice (some ⟨gg, 0, none⟩) (ct.length + 1) cap)).cell? ⟨w.heap.size + 1, 1, none⟩ = some (.slice (some ⟨gg, 0, none⟩) (ct.length + 1) cap) := World.cell?_setCell_same _ _ _ p13
    have PF : ∀ q, (w3.setCell ⟨w.heap.size + 1, 1, none⟩ (.slice (some ⟨gg, 0, none⟩) (ct.length + 1) cap)).frozen? ⟨w.heap.size + 1, q, none⟩ = false := fun q => by simpa using pf3 q
    have R0 : (w3.setCell ⟨w.heap.size + 1, 1, none⟩ (.slice (some ⟨gg, 0, none⟩) (ct.length + 1) cap)).cell? ⟨w.heap.size, 0, none⟩ = some (.int .i64 0) := (World.cell?_setCell_other _ _ _ _ (by simp)).trans r03
    have R1 : (w3.setCell ⟨w.heap.size + 1, 1, none⟩ (.slice (some ⟨gg, 0, none⟩) (ct.length + 1) cap)).cell? ⟨w.heap.size, 1, none⟩ = some (.slice none 0 0) := (World.cell?_setCell_other _ _ _ _ (by simp)).trans r13
    have RF : ∀ q, (w3.setCell ⟨w.heap.size + 1, 1, none⟩ (.slice (some ⟨gg, 0, none⟩) (ct.length + 1) cap)).frozen? ⟨w.heap.size, q, none⟩ = false := fun q => by simpa using rf3 q
    have hBs := hBp.keep (w' := w3.setCell ⟨w.heap.size + 1, 1, none⟩ (.slice (some ⟨gg, 0, none⟩) (ct.length + 1) cap)) (by simp) (fun b hb _ => Below.heap_setCell _ _ _ _ (by simp; omega))
    have belS : Below w.heap.size w (w3.setCell ⟨w.heap.size + 1, 1, none⟩ (.slice (some ⟨gg, 0, none⟩) (ct.length + 1) cap)) := bel3.setCell (by first | (simp; done) | (simp; omega)) _
    have hzS : w.heap.size + 1 + 1 ≤ (w3.setCell ⟨w.heap.size + 1, 1, none⟩ (.slice (some ⟨gg, 0, none⟩) (ct.length + 1) cap)).heap.size := by simp; omega
    have hgl := ownsRow_lt hBs.own
    have hfl := hBs.lt
    have hfr := hBs.free.2.1
    refine ⟨fun k => k = w.heap.size + 1 ∨ k = gg ∨ k ∈ (G ++ [g2]).flatten, ⟨_, _, _, P0, P1, PF, R0, R1, RF, by rw [HM.out]; exact hBs, belS, hzS, fun k hk => ?_, .inl rfl, fun k hk => ?_⟩, ⟨?_, fun k hk hn => ?_⟩, fun k hk => ?_⟩
    · rcases hk with hk | hk
      · simp only [Value.ownBlock, Option.some.injEq] at hk
        exact .inr (.inl hk.symm)
      · exact .inr (.inr hk)
    · rcases hk with hk | hk | hk
      · exact .inl hk
      · exact .inr (hk ▸ hgl gg rfl)
      · exact .inr ⟨hfr k hk, hfl k hk⟩
    · have := bel2.size
      simp
      omega
    · have h1 : k ≠ w.heap.size + 1 := fun e => hn (e ▸ hOb)
      have h2 : some k ≠ y.ownBlock := fun e => hn (hO k (.inl e.symm))
      rw [Below.heap_setCell _ _ _ _ (by simpa using h1), hgrow.block k (by simp; omega) h2, Below.heap_alloc _ _ _ (by omega), bel2.block k hk]
    · rcases hk with hk | hk | hk
      · exact .inl (hk ▸ hOb)
      · rcases hat with h | h
        · exact .inl (hk ▸ hO gg (.inl h))
        · exact .inr (by omega)
      · rw [List.flatten_append, List.mem_append] at hk
        rcases hk with hk | hk
        · exact .inl (hO k (.inr hk))
        · exact .inr (by have := hO2.2.1 k (by simpa using hk); simpa using this)
  case done =>
    rintro D xs O A hD hDO hord ⟨y, us, G, p0, p1, pf, r0, r1, rf, hB, hb, hzA, hO, hOb, hO2⟩ hK
    obtain ⟨ay, cy, rfl⟩ := hB.shape
    gi_wp2
    obtain ⟨A2, hA2⟩ : ∃ A2, (A.setCell ⟨w.heap.size, 0, none⟩ (.int .i64 X)).setCell ⟨w.heap.size, 1, none⟩ (.slice ay (xs.map fun x => x.1.2).length cy) = A2 := ⟨_, rfl⟩
    have hs3 : A2.heap.size = A.heap.size := by rw [← hA2]; simp
    have hfar : ∀ k, k ≠ w.heap.size → A2.heap[k]? = A.heap[k]? := fun k hk => by
      rw [← hA2, Below.heap_setCell _ _ _ _ (by simpa using hk), Below.heap_setCell _ _ _ _ (by simpa using hk)]
    have q0 : A2.cell? ⟨w.heap.size, 0, none⟩ = some (.int .i64 X) := by rw [← hA2]; exact (World.cell?_setCell_other _ _ _ _ (by simp)).trans (World.cell?_setCell_same _ _ _ r0)
    have q1 : A2.cell? ⟨w.heap.size, 1, none⟩ = some (.slice ay (xs.map fun x => x.1.2).length cy) := by rw [← hA2]; exact World.cell?_setCell_same _ _ _ ((World.cell?_setCell_other _ _ _ _ (by simp)).trans r1)
    have hb2 : Below w.heap.size w A2 := by rw [← hA2]; exact (hb.setCell (by simp) _).setCell (by simp) _
    have hK2 : A2.heap[D]? = some (.deferred (some [])) := (hfar D (by omega)).trans hK
    have hlen : (xs.map fun x => x.1.2).length = xs.length := by simp
    rw [hlen] at hA2 q1
    rw [hA2]
    refine ⟨by simp, .inl ⟨_, _, rfl, run_takeDeferred hK2, ?_⟩⟩
    have q0' : (A2.putObj D (.deferred none)).cell? ⟨w.heap.size, 0, none⟩ = some (.int .i64 X) := (cell_blk (World.putObj_heap_other (by omega))).trans q0
    have q1' : (A2.putObj D (.deferred none)).cell? ⟨w.heap.size, 1, none⟩ = some (.slice ay xs.length cy) := (cell_blk (World.putObj_heap_other (by omega))).trans q1
    have hB3 : BagOwn (A2.putObj D (.deferred none)) (w.heap.size + 1 + 1) (.slice ay (xs.map fun x => x.1.2).length cy) (xs.map fun x => x.1.2) us G := bagOwn_on hB (by simp [World.putObj]; omega) fun k hk => by
      have h1 := hDO k (hO k hk)
      have h2 : w.heap.size + 1 + 1 ≤ k := by
        rcases hk with hk | hk
        · exact (ownsRow_lt hB.own k hk).1
        · exact hB.free.2.1 k hk
      rw [World.putObj_heap_other h1, hfar k (by omega)]
    have hb3 : Below w.heap.size w (A2.putObj D (.deferred none)) := hb2.trans (belowK_b (w := w2) (by omega) A2 D _ _ hD hK2 rfl rfl)
    rw [hlen] at hB3
    refine ⟨.agg #[.int .i64 X, .slice ay xs.length cy], ?_, ⟨⟨_, _, us, G, rfl, hord, hB3.weak (by omega)⟩, hb3⟩⟩
    clear hB hB3 hord hI0 hT2
    simp [results, Try.results45, go_sem, q0', q1']
end Go.Proofs.Ytdkbhoichmcodaa
/- Own text. The contract of impl.BagOf. -/
namespace Go.Proofs.Ytdkbhoichmcodaa
open Go.RowKit Go.Shelf
set_option linter.unusedVariables false
theorem RssF.nth {w w' : World} {v : Value} {rs : List (List V3)} {F : List Nat} {b : Nat} (h : RssF w v rs F) (hF : ∀ x ∈ F, x < b) (hb : Below b w w') {k : Nat} (hk : k < rs.length) :
    ∃ bb oo c x a0 n0, v = .slice (some ⟨bb, oo, none⟩) rs.length c ∧ rs[k]? = some x ∧ w'.cell? ⟨bb, oo + k, none⟩ = some (.slice a0 x.length n0) ∧ bb < w'.heap.size ∧ RowB w' b (.slice a0 x.length n0) x := by
  obtain ⟨a, c, G, rfl, hl, hc, _, hG, _, hh⟩ := h
  obtain ⟨bb, oo, rfl, hlt, rfl, hC⟩ := hh (by rintro rfl; simp at hk)
  have hbb : bb < b := hF bb (by simp)
  have hkG : k < G.length := by omega
  obtain ⟨u, h0, h1⟩ := hC k rs[k] G[k] (by simp) (by simp)
  have hg : ∀ x ∈ G[k], x < b := fun x hx => hF x (by simp only [List.mem_cons, List.mem_flatten]; exact .inr ⟨G[k], List.getElem_mem hkG, hx⟩)
  obtain ⟨a0, n0, rfl⟩ := h1.shape
  exact ⟨bb, oo, c, rs[k], a0, n0, rfl, by simp, (cell_blk (hb.block bb hbb)).trans h0, Nat.lt_of_lt_of_le hlt hb.size, G[k], h1.keep hb.size (fun x hx => hb.block x (hg x hx)), hg⟩
theorem ones_len (rs : List (List V3)) : (onesC rs).length = rs.length := by simp [onesC]
theorem ones_small {rs : List (List V3)} (h : rs.length ≤ 1048576) : SmallC (onesC rs) := ⟨fun c hc => by obtain ⟨r, _, rfl⟩ := List.mem_map.1 hc; dsimp only; omega, by rw [ones_len]; omega⟩
theorem ones_snoc {rs : List (List V3)} {k : Nat} {x : List V3} (h : rs[k]? = some x) : onesC (rs.take (k + 1)) = onesC (rs.take k) ++ [⟨x, 1⟩] := by
  obtain ⟨hk, rfl⟩ := List.getElem?_eq_some_iff.1 h
  rw [List.take_succ_eq_append_getElem hk, onesC, onesC, List.map_append]
  rfl
set_option maxHeartbeats 8000000 in
set_option maxRecDepth 100000 in
theorem implBof_any (W : Int) (v : Value) (rs : List (List V3)) (F : List Nat) (w : World) (hr : RssF w v rs F) (hw : RsWf2 rs) (hn : wtss rs ≤ 1048576) :
    Calls Try.prog 13 #[.int .i64 W, v] w fun e w' => (∃ u us G, e = .returned (.agg #[.int .i64 W, u]) ∧ BagOwn w' w.heap.size u (bofC W rs) us G) ∧ Below w.heap.size w w' := by
  have hmm := @run_makeMap Try.prog
  have hlen : rs.length ≤ 1048576 := by unfold wtss at hn; omega
  obtain ⟨W', hW1, hW0⟩ : ∃ W' : Int, (rs ≠ [] → W' = W) ∧ (rs = [] → W' = 0) := by
    by_cases h : rs = []
    · exact ⟨0, fun x => absurd h x, fun _ => rfl⟩
    · exact ⟨W, fun _ => rfl, fun x => absurd x h⟩
  obtain ⟨a, c, hv, hcl, hcm⟩ : ∃ a c, v = .slice a rs.length c ∧ rs.length ≤ c ∧ c ≤ maxLen := by
    obtain ⟨a, c, G, e, h1, h2, _⟩ := hr
    exact ⟨a, c, e, h1, h2⟩
  unfold maxLen at hcm
  subst hv
  have hF : ∀ x ∈ F, x < w.heap.size + 1 := fun x hx => by have := hr.lt x hx; omega
  have hbA : Below w.heap.size w (w.alloc (.cells #[.int .i64 0, .slice none 0 0] 26)) := (Below.refl _ _).alloc (Nat.le_refl _) _
  replace hr := hr.below hbA
  go_enter Try.func13, Try.ntmps13
  go_wp2
  go_loopw [12] (fun i wr => ∃ k : Nat, k ≤ rs.length ∧ i = .int .i64 k ∧ (∀ r ∈ rs.take k, GoodRow W' r) ∧ TalIs wr (w.heap.size + 1) k W' (onesC (rs.take k)) ∧ Below (w.heap.size + 1) (w.alloc (.cells #[.int .i64 0, .slice none 0 0] 26)) wr) (fun i _ => rs.length - (intOf i).toNat)
  case atStart =>
    refine ⟨0, by omega, rfl, fun r hr => by simp at hr, ⟨.map [], ?_, TallyOf.start _ _ _⟩, ?_⟩
    · have := World.ownsMap_made (w.alloc (.cells #[.int .i64 0, .slice none 0 0] 26)) Try.prog 9 Rc
      simpa using this
    · exact (Below.refl _ _).alloc (by simp) _
  case round =>
    obtain ⟨k, hk, rfl, hgood, hT, hbr⟩ := hrel
    have hzr := hbr.size
    simp only [World.size_alloc] at hzr
    have hlb := hT.lt
    have hbw : Below w.heap.size w wr := hbA.trans (hbr.mono (by omega))
    have r0 : wr.cell? ⟨w.heap.size, 0, none⟩ = some (.int .i64 0) := (hbr.cell (p := ⟨w.heap.size, 0, none⟩) (by simp)).trans (by go_simp)
    have r1 : wr.cell? ⟨w.heap.size, 1, none⟩ = some (.slice none 0 0) := (hbr.cell (p := ⟨w.heap.size, 1, none⟩) (by simp)).trans (by go_simp)
    have rf : ∀ q, wr.frozen? ⟨w.heap.size, q, none⟩ = false := fun q => (frozen_blk (hbr.block w.heap.size (by simp))).trans (by go_simp)
    by_cases hlt : k < rs.length
    · obtain ⟨bb, oo, c', x, a0, n0, e, hx, c0, hbb, hRow⟩ := hr.nth hF hbr hlt
      obtain ⟨rfl, _, rfl⟩ : a = some ⟨bb, oo, none⟩ ∧ rs.length = rs.length ∧ c = c' := by injection e with e1 e2 e3; exact ⟨e1, e2, e3⟩
      obtain rfl : W' = W := hW1 (by rintro rfl; simp at hlt)
      have hxm := List.mem_of_getElem? hx
      have hxw : VsWf x := hw x hxm
      have hxl : x.length ≤ 1048576 := by have := wt_memR hxm; unfold wt at this; unfold wtss at hn; omega
      have hRis : RowIs wr (.slice a0 x.length n0) x := by obtain ⟨g, hg, _⟩ := hRow; exact hg.is
      cases hok : okRow x W' with
      | false =>
        have HB : Hid (bofC W' rs = []) := bofC_bad hxm hok
        have HO : Hid (okRow x W' = false) := hok
        clear hr e hx hT hRow hok hmm
        go_wp2_with fail
        refine Calls.mono (rowOk_any _ x W' wr hRis hxw) ?_
        rw [HO.out]
        rintro q w2 ⟨rfl, hb2⟩
        have hz2 := hb2.size
        have s0 := (hb2.cell (p := ⟨w.heap.size, 0, none⟩) (show w.heap.size < wr.heap.size by omega)).trans r0
        have s1 := (hb2.cell (p := ⟨w.heap.size, 1, none⟩) (show w.heap.size < wr.heap.size by omega)).trans r1
        have sf : ∀ q, w2.frozen? ⟨w.heap.size, q, none⟩ = false := fun q => (frozen_blk (hb2.block w.heap.size (by omega))).trans (rf q)
        have hb3 : Below w.heap.size w w2 := hbw.trans (hb2.mono (by omega))
        have hy2 : w.heap.size < w2.heap.size := by omega
        clear r0 r1 rf hb2 c0 hRis
        go_wp2_with fail
        refine bodyPost_ret (v := .agg #[.int .i64 W', .slice none 0 0]) (by simp [results, Try.results13, go_sem, *]) rfl ⟨⟨_, [], [], rfl, by rw [HB.out]; exact BagOwn.nil _ _⟩, ?_⟩
        exact (hb3.setCell (by simp) _).setCell (by simp) _
      | true =>
        have hgx : GoodRow W' x := ⟨hok, hxw⟩
        have HO : Hid (okRow x W' = true) := hok
        have HT : Hid (onesC (rs.take (k + 1)) = onesC (rs.take k) ++ [⟨x, 1⟩]) := ones_snoc hx
        have HG : Hid (∀ r ∈ rs.take (k + 1), GoodRow W' r) := by
          intro r hr'
          obtain ⟨hk', rfl⟩ := List.getElem?_eq_some_iff.1 hx
          rw [List.take_succ_eq_append_getElem hk'] at hr'
          rcases List.mem_append.1 hr' with h | h
          · exact hgood r h
          · rw [List.mem_singleton.1 h]; exact hgx
        have hbd := (ones_small (rs := rs.take k) (by rw [List.length_take]; omega)).tot (cs := onesC (rs.take k)) ⟨[], by simp⟩ x
        have hcall := fun (w2 : World) (hb2 : Below wr.heap.size wr w2) => add_any (w.heap.size + 1) k W' (onesC (rs.take k)) (.slice a0 x.length n0) x 1 w2 (hT.keep hb2) (hRow.below (hb2.mono (Nat.le_of_lt hlb))) hgx hxl (by omega) (by omega)
        have HC : Hid _ := hcall
        clear hr e hx hT hRow hok hmm r0 r1 rf hcall hgood hgx hw
        go_wp2_with fail
        refine Calls.mono (rowOk_any _ x W' wr hRis hxw) ?_
        rw [HO.out]
        rintro q w2 ⟨rfl, hb2⟩
        have hz2 := hb2.size
        go_wp2_with fail
        refine Calls.mono (HC.out w2 hb2) ?_
        rintro q w3 ⟨rfl, hT3, hb3⟩
        go_wp2
        exact ⟨⟨k + 1, hlt, by simp, HG.out, by rw [HT.out]; exact hT3, hbr.trans ((hb2.mono (Nat.le_of_lt hlb)).trans hb3)⟩, by simp [intOf]; omega⟩
    · obtain rfl : k = rs.length := by omega
      rw [List.take_length] at hT hgood
      have hWle : W' ≤ 1048576 := by
        by_cases h : rs = []
        · rw [hW0 h]; decide
        · obtain ⟨x, xs, rfl⟩ := List.exists_cons_of_ne_nil h
          have hg := (hgood x (by simp)).1
          have hx2 := wt_memR (rs := x :: xs) (r := x) (by simp)
          simp only [okRow, Bool.and_eq_true, decide_eq_true_eq] at hg
          unfold wt at hx2
          unfold wtss at hn
          omega
      have hcall := bag_any (w.heap.size + 1) rs.length W' W (onesC rs) wr hT (by omega) hWle
      have HN : Hid (∀ xs, OrderedOf W' (onesC rs) xs → xs = sumC [] (onesC rs) 1 ∧ CsWf xs) := fun xs h => ⟨ordered_ones hgood h, ordered_wf h (ones_small hlen)⟩
      clear hT hr hgood hw hmm
      go_wp2_with fail
      refine Calls.mono hcall ?_
      rintro q w2 ⟨⟨xs, u, us, G, rfl, hord, hO⟩, hb2⟩
      obtain ⟨hxs, hxw⟩ := HN.out xs hord
      have HX : Hid (xs = sumC [] (onesC rs) 1) := hxs
      obtain ⟨au, cu, rfl⟩ := hO.shape
      have hz2 := hb2.size
      have s0 := (hb2.cell (p := ⟨w.heap.size, 0, none⟩) (show w.heap.size < wr.heap.size by omega)).trans r0
      have s1 := (hb2.cell (p := ⟨w.heap.size, 1, none⟩) (show w.heap.size < wr.heap.size by omega)).trans r1
      have sf : ∀ q, w2.frozen? ⟨w.heap.size, q, none⟩ = false := fun q => (frozen_blk (hb2.block w.heap.size (by omega))).trans (rf q)
      have hb3 : Below w.heap.size w w2 := hbw.trans (hb2.mono (by omega))
      have hy2 : w.heap.size < w2.heap.size := by omega
      have hbG : Below w2.heap.size w2 (w2.alloc (.cells #[.int .i64 W, .slice au xs.length cu] 26)) := (Below.refl _ _).alloc (Nat.le_refl _) _
      clear r0 r1 rf hb2 hcall hxs hord
      go_wp2_with fail
      obtain ⟨FF, hRF, _⟩ := (hO.below hbG).rowsF
      refine Calls.mono (implBagOk_any W (.slice au xs.length cu) xs _ hxw hRF.is) ?_
      rintro q w4 ⟨rfl, hb4⟩
      have hz4 := hb4.size
      simp only [World.size_alloc] at hz4
      have hb24 : Below w2.heap.size w2 w4 := by repeat (first | (with_reducible exact Below.refl _ _) | (with_reducible refine Below.drew ?_) | (with_reducible refine Below.alloc ?_ ?hh _; case hh => first | (simp; done) | (simp; omega) | omega) | (with_reducible refine Below.setCell ?_ ?hh _; case hh => first | (simp; done) | (simp; omega) | omega) | refine bstep (by assumption) (by first | (simp; done) | (simp; omega) | omega) ?_)
      have t0 := (hb24.cell (p := ⟨w.heap.size, 0, none⟩) hy2).trans s0
      have t1 := (hb24.cell (p := ⟨w.heap.size, 1, none⟩) hy2).trans s1
      have tf : ∀ q, w4.frozen? ⟨w.heap.size, q, none⟩ = false := fun q => (frozen_blk (hb24.block w.heap.size hy2)).trans (sf q)
      have g0 : w4.cell? ⟨w2.heap.size, 0, none⟩ = some (.int .i64 W) := cell_later hb4 (by go_simp)
      have g1 : w4.cell? ⟨w2.heap.size, 1, none⟩ = some (.slice au xs.length cu) := cell_later hb4 (by go_simp)
      have hO4 := hO.below hb24
      have hb5 : Below w.heap.size w w4 := hb3.trans (hb24.mono (by omega))
      have hy4 : w.heap.size < w4.heap.size := by omega
      have hy24 : w2.heap.size < w4.heap.size := by omega
      clear s0 s1 sf hb4 hb24 hRF hO
      cases hok : okBag W xs with
      | false =>
        have HB : Hid (bofC W rs = []) := by unfold Hid bofC; rw [← HX.out, hok]; rfl
        clear hO4
        go_wp2_with fail
        refine bodyPost_ret (v := .agg #[.int .i64 W, .slice none 0 0]) (by simp [results, Try.results13, go_sem, *]) rfl ⟨⟨_, [], [], rfl, by rw [HB.out]; exact BagOwn.nil _ _⟩, ?_⟩
        exact (hb5.setCell (by simp) _).setCell (by simp) _
      | true =>
        have HB : Hid (bofC W rs = xs) := by unfold Hid bofC; rw [← HX.out, hok]; rfl
        go_wp2_with fail
        refine bodyPost_ret (v := .agg #[.int .i64 W, .slice au xs.length cu]) (by simp [results, Try.results13, go_sem, *]) rfl ⟨⟨_, us, G, rfl, by rw [HB.out]; exact (hO4.keep (w' := _) (by simp) fun k hk _ => (by rw [Below.heap_setCell _ _ _ _ (by simp; omega), Below.heap_setCell _ _ _ _ (by simp; omega)])).weak (by omega)⟩, ?_⟩
        exact (hb5.setCell (by simp) _).setCell (by simp) _
end Go.Proofs.Ytdkbhoichmcodaa
/- Own text. Whether a bag is right: the contract of spec.BagOk. -/
namespace Go.Proofs.Ytdkbhoichmcodaa
open Go.RowKit
set_option linter.unusedVariables false
theorem okN_zero {n : Int} (h : n = 0) : okN n = false := by simp [okN, h]
theorem okN_out {n : Int} (h : ¬ (decide (-1000000000 ≤ n) && decide (n ≤ 1000000000)) = true) : okN n = false := by
  unfold okN
  rw [Bool.and_assoc, show (decide (-1000000000 ≤ n) && decide (n ≤ 1000000000)) = false from by simpa using h, Bool.and_false]
theorem okN_in {n : Int} (h0 : ¬ n = 0) (h : (decide (-1000000000 ≤ n) && decide (n ≤ 1000000000)) = true) : okN n = true := by
  unfold okN
  rw [Bool.and_assoc, h]
  simp [h0]
set_option maxHeartbeats 8000000 in
set_option maxRecDepth 100000 in
theorem specBagOk_any (W : Int) (v : Value) (cs : List C2) (w : World) (hw : CsWf cs) (hr : RowsIs w v cs) :
    Calls Try.prog 55 #[.agg #[.int .i64 W, v]] w fun e w' => e = .returned (.bool (okBag W cs)) ∧ Below w.heap.size w w' := by
  obtain ⟨a, c, b, o, rfl, hl, hc, ha⟩ := hr.pick
  unfold maxLen at hc
  clear hr
  go_enter Try.func55, Try.ntmps55
  go_wp2
  go_loopw [3] (fun i wr => ∃ (k : Nat) (q : Int), k ≤ cs.length ∧ q = k ∧ i = .int .i64 q ∧ Below w.heap.size w wr ∧ w.heap.size < wr.heap.size ∧ wr.cell? ⟨w.heap.size, 0, none⟩ = some (.int .i64 W) ∧ wr.cell? ⟨w.heap.size, 1, none⟩ = some (.slice a cs.length c) ∧ okCs W none cs = okCs W (prev cs k) (cs.drop k)) (fun i _ => cs.length - (intOf i).toNat)
  case atStart => exact ⟨0, 0, Nat.zero_le _, rfl, rfl, by go_grown, by simp, by go_simp, by go_simp, by simp [prev]⟩
  case round =>
    obtain ⟨k, q, hk, hq, rfl, hb, hsz, p0, p1, heq⟩ := hrel
    have HE : Hid (okCs W none cs = okCs W (prev cs k) (cs.drop k)) := heq
    have hzb := hb.size
    clear heq
    by_cases hlt : k < cs.length
    · obtain ⟨rfl, hblt, hL⟩ := ha k hlt
      obtain ⟨x, u, hx, c0, hR, c1, hbr⟩ := hL.at hblt hb hlt
      obtain ⟨ur, lr, cr, rfl⟩ := hR.shape
      have hxw : VsWf x.r := (hw x (List.mem_of_getElem? hx)).1
      have HS : Hid (okCs W (prev cs k) (cs.drop k) = (okRow x.r W && okN x.n && okPrev (prev cs k) x && okCs W (prev cs (k + 1)) (cs.drop (k + 1)))) := okCs_step hx
      by_cases hok : okRow x.r W = true
      rotate_left
      · have hf : okRow x.r W = false := by simpa using hok
        subst hq
        clear ha hw hL hx
        go_wp2_with fail
        refine wp_region_held_drew (S := (fun w' => w'.cell? ⟨w.heap.size, 0, none⟩ = some (.int .i64 W) ∧ w'.cell? ⟨w.heap.size, 1, none⟩ = some (.slice (some ⟨b, o, none⟩) cs.length c) ∧ w'.cell? ⟨wr.heap.size, 0, none⟩ = some (.slice ur lr cr) ∧ w'.cell? ⟨wr.heap.size, 1, none⟩ = some (.int .i64 x.n))) (by kernel_rfl) ?_ (fun hHeld => ?_)
        · (try dsimp only); refine ⟨?_, ?_, ?_, ?_⟩ <;> first | (go_simp; done) | (exact cell_later (by assumption) (by go_simp))
        refine takeYes (i := 0) (d := 17) (v := ?_) rfl rfl (by kernel_rfl) (by kernel_rfl) (by kernel_rfl) (fun _ _ _ h => h) (by rfl) (by assumption) ?_ ?_
        rotate_left
        · intro w' hSw; (try dsimp only at hSw); go_simp; try exact rfl
        try simp only [List.setIfInBounds_toArray, List.set_cons_zero, List.set_cons_succ]
        refine takeYes (i := 1) (d := 18) (v := ?_) rfl rfl (by kernel_rfl) (by kernel_rfl) (by kernel_rfl) (fun _ _ _ h => h) (by rfl) (by assumption) ?_ ?_
        rotate_left
        · intro w' hSw; (try dsimp only at hSw); go_simp; try exact rfl
        try simp only [List.setIfInBounds_toArray, List.set_cons_zero, List.set_cons_succ]
        refine takeYes (i := 2) (d := 19) (v := ?_) rfl rfl (by kernel_rfl) (by kernel_rfl) (by kernel_rfl) (fun _ _ _ h => h) (by rfl) (by assumption) ?_ ?_
        rotate_left
        · intro w' hSw; (try dsimp only at hSw); go_simp; try exact rfl
        try simp only [List.setIfInBounds_toArray, List.set_cons_zero, List.set_cons_succ]
        refine takeYes (i := 3) (d := 20) (v := ?_) rfl rfl (by kernel_rfl) (by kernel_rfl) (by kernel_rfl) (fun _ _ _ h => h) (by rfl) (by assumption) ?_ ?_
        rotate_left
        · intro w' hSw; (try dsimp only at hSw); go_simp; try exact rfl
        try simp only [List.setIfInBounds_toArray, List.set_cons_zero, List.set_cons_succ]
        refine wpAnyH_ready (rs := [4]) (by kernel_rfl) (by simp) ?_
        refine AllReadyH.cons rfl (fun K hK => ?_) AllReadyH.nil
        go_simp
        go_at_call 107
        refine Calls.mono (l02Row_any (.slice ur lr cr) x.r W _ (hR.below (by repeat (first | exact Below.refl _ _ | refine Below.drew ?_ | refine Below.alloc ?_ (by first | (simp; done) | (simp; omega) | omega) _ | refine Below.setCell ?_ (by first | (simp; done) | (simp; omega) | omega) _ | refine bstep (by assumption) (by first | (simp; done) | (simp; omega) | omega) ?_))) hxw) ?_
        rintro e w1 ⟨rfl, hb1⟩
        have hz1 := hb1.size
        (try simp at hz1)
        try go_wp2_with fail
        refine hK.out _ _ ?_ (fun hHeld4 => ?_)
        · (try dsimp only); refine ⟨?_, ?_, ?_, ?_⟩ <;> first | (go_simp; done) | (exact cell_later (by assumption) (by go_simp))
        clear hK
        refine takeYes (i := 5) (d := 22) (v := ?_) rfl rfl (by kernel_rfl) (by kernel_rfl) (by kernel_rfl) (fun _ _ _ h => h) (by rfl) (by assumption) ?_ ?_
        rotate_left
        · intro w' hSw; (try dsimp only at hSw); go_simp; try exact rfl
        try simp only [List.setIfInBounds_toArray, List.set_cons_zero, List.set_cons_succ]
        refine takeYes (i := 6) (d := 23) (v := ?_) rfl rfl (by kernel_rfl) (by kernel_rfl) (by kernel_rfl) (fun _ _ _ h => h) (by rfl) (by assumption) ?_ ?_
        rotate_left
        · intro w' hSw; (try dsimp only at hSw); go_simp; try exact rfl
        try simp only [List.setIfInBounds_toArray, List.set_cons_zero, List.set_cons_succ]
        refine takeNo (i := 7) (d := 24) rfl rfl (by kernel_rfl) (by kernel_rfl) (by kernel_rfl) (fun _ _ _ h => h) (by rfl) (by assumption) ?_
        try simp only [List.setIfInBounds_toArray, List.set_cons_zero, List.set_cons_succ]
        refine takeNo (i := 8) (d := 25) rfl rfl (by kernel_rfl) (by kernel_rfl) (by kernel_rfl) (fun _ _ _ h => h) (by rfl) (by assumption) ?_
        try simp only [List.setIfInBounds_toArray, List.set_cons_zero, List.set_cons_succ]
        refine takeNo (i := 9) (d := 26) rfl rfl (by kernel_rfl) (by kernel_rfl) (by kernel_rfl) (fun _ _ _ h => h) (by rfl) (by assumption) ?_
        try simp only [List.setIfInBounds_toArray, List.set_cons_zero, List.set_cons_succ]
        refine takeYes (i := 10) (d := 27) (v := ?_) rfl rfl (by kernel_rfl) (by kernel_rfl) (by kernel_rfl) (fun _ _ _ h => h) (by rfl) (by assumption) ?_ ?_
        rotate_left
        · intro w' hSw; (try dsimp only at hSw); go_simp; try exact rfl
        try simp only [List.setIfInBounds_toArray, List.set_cons_zero, List.set_cons_succ]
        refine takeYes (i := 11) (d := 28) (v := ?_) rfl rfl (by kernel_rfl) (by kernel_rfl) (by kernel_rfl) (fun _ _ _ h => h) (by rfl) (by assumption) ?_ ?_
        rotate_left
        · intro w' hSw; (try dsimp only at hSw); go_simp; try exact rfl
        try simp only [List.setIfInBounds_toArray, List.set_cons_zero, List.set_cons_succ]
        refine takeNo (i := 12) (d := 29) rfl rfl (by kernel_rfl) (by kernel_rfl) (by kernel_rfl) (fun _ _ _ h => h) (by rfl) (by assumption) ?_
        try simp only [List.setIfInBounds_toArray, List.set_cons_zero, List.set_cons_succ]
        refine takeNo (i := 13) (d := 30) rfl rfl (by kernel_rfl) (by kernel_rfl) (by kernel_rfl) (fun _ _ _ h => h) (by rfl) (by assumption) ?_
        try simp only [List.setIfInBounds_toArray, List.set_cons_zero, List.set_cons_succ]
        refine wpAnyH_ready (rs := [14]) (by kernel_rfl) (by simp) ?_
        refine AllReadyH.cons rfl (fun K hK => ?_) AllReadyH.nil
        go_simp
        refine hK.out _ _ ?_ (fun hHeld14 => ?_)
        · (try dsimp only); refine ⟨?_, ?_, ?_, ?_⟩ <;> first | (go_simp; done) | (exact cell_later (by assumption) (by go_simp))
        clear hK
        refine takeNo (i := 15) (d := 32) rfl rfl (by kernel_rfl) (by kernel_rfl) (by kernel_rfl) (fun _ _ _ h => h) (by rfl) (by assumption) ?_
        try simp only [List.setIfInBounds_toArray, List.set_cons_zero, List.set_cons_succ]
        refine takeYes (i := 16) (d := 33) (v := ?_) rfl rfl (by kernel_rfl) (by kernel_rfl) (by kernel_rfl) (fun _ _ _ h => h) (by rfl) (by assumption) ?_ ?_
        rotate_left
        · intro w' hSw; (try dsimp only at hSw); go_simp; try exact rfl
        try simp only [List.setIfInBounds_toArray, List.set_cons_zero, List.set_cons_succ]
        refine takeYes (i := 17) (d := 34) (v := ?_) rfl rfl (by kernel_rfl) (by kernel_rfl) (by kernel_rfl) (fun _ _ _ h => h) (by rfl) (by assumption) ?_ ?_
        rotate_left
        · intro w' hSw; (try dsimp only at hSw); go_simp; try exact rfl
        try simp only [List.setIfInBounds_toArray, List.set_cons_zero, List.set_cons_succ]
        refine takeNo (i := 18) (d := 35) rfl rfl (by kernel_rfl) (by kernel_rfl) (by kernel_rfl) (fun _ _ _ h => h) (by rfl) (by assumption) ?_
        try simp only [List.setIfInBounds_toArray, List.set_cons_zero, List.set_cons_succ]
        refine takeNo (i := 19) (d := 36) rfl rfl (by kernel_rfl) (by kernel_rfl) (by kernel_rfl) (fun _ _ _ h => h) (by rfl) (by assumption) ?_
        try simp only [List.setIfInBounds_toArray, List.set_cons_zero, List.set_cons_succ]
        refine takeNo (i := 20) (d := 37) rfl rfl (by kernel_rfl) (by kernel_rfl) (by kernel_rfl) (fun _ _ _ h => h) (by rfl) (by assumption) ?_
        try simp only [List.setIfInBounds_toArray, List.set_cons_zero, List.set_cons_succ]
        refine takeNo (i := 21) (d := 38) rfl rfl (by kernel_rfl) (by kernel_rfl) (by kernel_rfl) (fun _ _ _ h => h) (by rfl) (by assumption) ?_
        try simp only [List.setIfInBounds_toArray, List.set_cons_zero, List.set_cons_succ]
        refine takeNo (i := 22) (d := 39) rfl rfl (by kernel_rfl) (by kernel_rfl) (by kernel_rfl) (fun _ _ _ h => h) (by rfl) (by assumption) ?_
        try simp only [List.setIfInBounds_toArray, List.set_cons_zero, List.set_cons_succ]
        refine takeNo (i := 23) (d := 40) rfl rfl (by kernel_rfl) (by kernel_rfl) (by kernel_rfl) (fun _ _ _ h => h) (by rfl) (by assumption) ?_
        try simp only [List.setIfInBounds_toArray, List.set_cons_zero, List.set_cons_succ]
        refine takeNo (i := 24) (d := 41) rfl rfl (by kernel_rfl) (by kernel_rfl) (by kernel_rfl) (fun _ _ _ h => h) (by rfl) (by assumption) ?_
        try simp only [List.setIfInBounds_toArray, List.set_cons_zero, List.set_cons_succ]
        refine takeNo (i := 25) (d := 42) rfl rfl (by kernel_rfl) (by kernel_rfl) (by kernel_rfl) (fun _ _ _ h => h) (by rfl) (by assumption) ?_
        try simp only [List.setIfInBounds_toArray, List.set_cons_zero, List.set_cons_succ]
        refine takeNo (i := 26) (d := 43) rfl rfl (by kernel_rfl) (by kernel_rfl) (by kernel_rfl) (fun _ _ _ h => h) (by rfl) (by assumption) ?_
        try simp only [List.setIfInBounds_toArray, List.set_cons_zero, List.set_cons_succ]
        refine takeNo (i := 27) (d := 44) rfl rfl (by kernel_rfl) (by kernel_rfl) (by kernel_rfl) (fun _ _ _ h => h) (by rfl) (by assumption) ?_
        try simp only [List.setIfInBounds_toArray, List.set_cons_zero, List.set_cons_succ]
        refine takeNo (i := 28) (d := 45) rfl rfl (by kernel_rfl) (by kernel_rfl) (by kernel_rfl) (fun _ _ _ h => h) (by rfl) (by assumption) ?_
        try simp only [List.setIfInBounds_toArray, List.set_cons_zero, List.set_cons_succ]
        refine takeNo (i := 29) (d := 46) rfl rfl (by kernel_rfl) (by kernel_rfl) (by kernel_rfl) (fun _ _ _ h => h) (by rfl) (by assumption) ?_
        try simp only [List.setIfInBounds_toArray, List.set_cons_zero, List.set_cons_succ]
        refine wpAnyH_ready (rs := [30]) (by kernel_rfl) (by simp) ?_
        refine AllReadyH.cons rfl (fun K hK => ?_) AllReadyH.nil
        go_simp
        refine hK.out _ _ ?_ (fun hHeld30 => ?_)
        · (try dsimp only); refine ⟨?_, ?_, ?_, ?_⟩ <;> first | (go_simp; done) | (exact cell_later (by assumption) (by go_simp))
        clear hK
        refine takeNo (i := 31) (d := 48) rfl rfl (by kernel_rfl) (by kernel_rfl) (by kernel_rfl) (fun _ _ _ h => h) (by rfl) (by assumption) ?_
        try simp only [List.setIfInBounds_toArray, List.set_cons_zero, List.set_cons_succ]
        refine takeNo (i := 32) (d := 49) rfl rfl (by kernel_rfl) (by kernel_rfl) (by kernel_rfl) (fun _ _ _ h => h) (by rfl) (by assumption) ?_
        try simp only [List.setIfInBounds_toArray, List.set_cons_zero, List.set_cons_succ]
        refine takeYes (i := 33) (d := 50) (v := ?_) rfl rfl (by kernel_rfl) (by kernel_rfl) (by kernel_rfl) (fun _ _ _ h => h) (by rfl) (by assumption) ?_ ?_
        rotate_left
        · intro w' hSw; (try dsimp only at hSw); go_simp; try exact rfl
        try simp only [List.setIfInBounds_toArray, List.set_cons_zero, List.set_cons_succ]
        refine wpAnyH_done (by kernel_rfl) ?_ _
        go_wp2
        go_returns
        refine ⟨ret_bool ?_, by repeat (first | exact Below.refl _ _ | refine Below.drew ?_ | refine Below.alloc ?_ (by first | (simp; done) | (simp; omega) | omega) _ | refine Below.setCell ?_ (by first | (simp; done) | (simp; omega) | omega) _ | refine bstep (by assumption) (by first | (simp; done) | (simp; omega) | omega) ?_)⟩
        unfold okBag
        rw [HE.out, HS.out, hf]
        simp
      by_cases hn0 : x.n = 0
      · have HN : Hid (okN x.n = false) := okN_zero hn0
        have hn1 : (x.n == 0) = true := by simpa using hn0
        subst hq
        clear ha hw hL hx hn0
        go_wp2_with fail
        refine wp_region_held_drew (S := (fun w' => w'.cell? ⟨w.heap.size, 0, none⟩ = some (.int .i64 W) ∧ w'.cell? ⟨w.heap.size, 1, none⟩ = some (.slice (some ⟨b, o, none⟩) cs.length c) ∧ w'.cell? ⟨wr.heap.size, 0, none⟩ = some (.slice ur lr cr) ∧ w'.cell? ⟨wr.heap.size, 1, none⟩ = some (.int .i64 x.n))) (by kernel_rfl) ?_ (fun hHeld => ?_)
        · (try dsimp only); refine ⟨?_, ?_, ?_, ?_⟩ <;> first | (go_simp; done) | (exact cell_later (by assumption) (by go_simp))
        refine takeYes (i := 0) (d := 17) (v := ?_) rfl rfl (by kernel_rfl) (by kernel_rfl) (by kernel_rfl) (fun _ _ _ h => h) (by rfl) (by assumption) ?_ ?_
        rotate_left
        · intro w' hSw; (try dsimp only at hSw); go_simp; try exact rfl
        try simp only [List.setIfInBounds_toArray, List.set_cons_zero, List.set_cons_succ]
        refine takeYes (i := 1) (d := 18) (v := ?_) rfl rfl (by kernel_rfl) (by kernel_rfl) (by kernel_rfl) (fun _ _ _ h => h) (by rfl) (by assumption) ?_ ?_
        rotate_left
        · intro w' hSw; (try dsimp only at hSw); go_simp; try exact rfl
        try simp only [List.setIfInBounds_toArray, List.set_cons_zero, List.set_cons_succ]
        refine takeYes (i := 2) (d := 19) (v := ?_) rfl rfl (by kernel_rfl) (by kernel_rfl) (by kernel_rfl) (fun _ _ _ h => h) (by rfl) (by assumption) ?_ ?_
        rotate_left
        · intro w' hSw; (try dsimp only at hSw); go_simp; try exact rfl
        try simp only [List.setIfInBounds_toArray, List.set_cons_zero, List.set_cons_succ]
        refine takeYes (i := 3) (d := 20) (v := ?_) rfl rfl (by kernel_rfl) (by kernel_rfl) (by kernel_rfl) (fun _ _ _ h => h) (by rfl) (by assumption) ?_ ?_
        rotate_left
        · intro w' hSw; (try dsimp only at hSw); go_simp; try exact rfl
        try simp only [List.setIfInBounds_toArray, List.set_cons_zero, List.set_cons_succ]
        refine wpAnyH_ready (rs := [4]) (by kernel_rfl) (by simp) ?_
        refine AllReadyH.cons rfl (fun K hK => ?_) AllReadyH.nil
        go_simp
        go_at_call 107
        refine Calls.mono (l02Row_any (.slice ur lr cr) x.r W _ (hR.below (by repeat (first | exact Below.refl _ _ | refine Below.drew ?_ | refine Below.alloc ?_ (by first | (simp; done) | (simp; omega) | omega) _ | refine Below.setCell ?_ (by first | (simp; done) | (simp; omega) | omega) _ | refine bstep (by assumption) (by first | (simp; done) | (simp; omega) | omega) ?_))) hxw) ?_
        rintro e w1 ⟨rfl, hb1⟩
        have hz1 := hb1.size
        (try simp at hz1)
        try go_wp2_with fail
        refine hK.out _ _ ?_ (fun hHeld4 => ?_)
        · (try dsimp only); refine ⟨?_, ?_, ?_, ?_⟩ <;> first | (go_simp; done) | (exact cell_later (by assumption) (by go_simp))
        clear hK
        refine takeYes (i := 5) (d := 22) (v := ?_) rfl rfl (by kernel_rfl) (by kernel_rfl) (by kernel_rfl) (fun _ _ _ h => h) (by rfl) (by assumption) ?_ ?_
        rotate_left
        · intro w' hSw; (try dsimp only at hSw); go_simp; try exact rfl
        try simp only [List.setIfInBounds_toArray, List.set_cons_zero, List.set_cons_succ]
        refine takeYes (i := 6) (d := 23) (v := ?_) rfl rfl (by kernel_rfl) (by kernel_rfl) (by kernel_rfl) (fun _ _ _ h => h) (by rfl) (by assumption) ?_ ?_
        rotate_left
        · intro w' hSw; (try dsimp only at hSw); go_simp; try exact rfl
        try simp only [List.setIfInBounds_toArray, List.set_cons_zero, List.set_cons_succ]
        refine takeYes (i := 7) (d := 24) (v := ?_) rfl rfl (by kernel_rfl) (by kernel_rfl) (by kernel_rfl) (fun _ _ _ h => h) (by rfl) (by assumption) ?_ ?_
        rotate_left
        · intro w' hSw; (try dsimp only at hSw); go_simp; try exact rfl
        try simp only [List.setIfInBounds_toArray, List.set_cons_zero, List.set_cons_succ]
        refine takeYes (i := 8) (d := 25) (v := ?_) rfl rfl (by kernel_rfl) (by kernel_rfl) (by kernel_rfl) (fun _ _ _ h => h) (by rfl) (by assumption) ?_ ?_
        rotate_left
        · intro w' hSw; (try dsimp only at hSw); go_simp; try exact rfl
        try simp only [List.setIfInBounds_toArray, List.set_cons_zero, List.set_cons_succ]
        refine takeYes (i := 9) (d := 26) (v := ?_) rfl rfl (by kernel_rfl) (by kernel_rfl) (by kernel_rfl) (fun _ _ _ h => h) (by rfl) (by assumption) ?_ ?_
        rotate_left
        · intro w' hSw; (try dsimp only at hSw); go_simp; try exact rfl
        try simp only [List.setIfInBounds_toArray, List.set_cons_zero, List.set_cons_succ]
        refine takeYes (i := 10) (d := 27) (v := ?_) rfl rfl (by kernel_rfl) (by kernel_rfl) (by kernel_rfl) (fun _ _ _ h => h) (by rfl) (by assumption) ?_ ?_
        rotate_left
        · intro w' hSw; (try dsimp only at hSw); go_simp; try exact rfl
        try simp only [List.setIfInBounds_toArray, List.set_cons_zero, List.set_cons_succ]
        refine takeYes (i := 11) (d := 28) (v := ?_) rfl rfl (by kernel_rfl) (by kernel_rfl) (by kernel_rfl) (fun _ _ _ h => h) (by rfl) (by assumption) ?_ ?_
        rotate_left
        · intro w' hSw; (try dsimp only at hSw); go_simp; try exact rfl
        try simp only [List.setIfInBounds_toArray, List.set_cons_zero, List.set_cons_succ]
        refine takeNo (i := 12) (d := 29) rfl rfl (by kernel_rfl) (by kernel_rfl) (by kernel_rfl) (fun _ _ _ h => h) (by rfl) (by assumption) ?_
        try simp only [List.setIfInBounds_toArray, List.set_cons_zero, List.set_cons_succ]
        refine takeNo (i := 13) (d := 30) rfl rfl (by kernel_rfl) (by kernel_rfl) (by kernel_rfl) (fun _ _ _ h => h) (by rfl) (by assumption) ?_
        try simp only [List.setIfInBounds_toArray, List.set_cons_zero, List.set_cons_succ]
        refine wpAnyH_ready (rs := [14]) (by kernel_rfl) (by simp) ?_
        refine AllReadyH.cons rfl (fun K hK => ?_) AllReadyH.nil
        go_simp
        refine hK.out _ _ ?_ (fun hHeld14 => ?_)
        · (try dsimp only); refine ⟨?_, ?_, ?_, ?_⟩ <;> first | (go_simp; done) | (exact cell_later (by assumption) (by go_simp))
        clear hK
        refine takeNo (i := 15) (d := 32) rfl rfl (by kernel_rfl) (by kernel_rfl) (by kernel_rfl) (fun _ _ _ h => h) (by rfl) (by assumption) ?_
        try simp only [List.setIfInBounds_toArray, List.set_cons_zero, List.set_cons_succ]
        refine takeYes (i := 16) (d := 33) (v := ?_) rfl rfl (by kernel_rfl) (by kernel_rfl) (by kernel_rfl) (fun _ _ _ h => h) (by rfl) (by assumption) ?_ ?_
        rotate_left
        · intro w' hSw; (try dsimp only at hSw); go_simp; try exact rfl
        try simp only [List.setIfInBounds_toArray, List.set_cons_zero, List.set_cons_succ]
        refine takeYes (i := 17) (d := 34) (v := ?_) rfl rfl (by kernel_rfl) (by kernel_rfl) (by kernel_rfl) (fun _ _ _ h => h) (by rfl) (by assumption) ?_ ?_
        rotate_left
        · intro w' hSw; (try dsimp only at hSw); go_simp; try exact rfl
        try simp only [List.setIfInBounds_toArray, List.set_cons_zero, List.set_cons_succ]
        refine takeNo (i := 18) (d := 35) rfl rfl (by kernel_rfl) (by kernel_rfl) (by kernel_rfl) (fun _ _ _ h => h) (by rfl) (by assumption) ?_
        try simp only [List.setIfInBounds_toArray, List.set_cons_zero, List.set_cons_succ]
        refine takeNo (i := 19) (d := 36) rfl rfl (by kernel_rfl) (by kernel_rfl) (by kernel_rfl) (fun _ _ _ h => h) (by rfl) (by assumption) ?_
        try simp only [List.setIfInBounds_toArray, List.set_cons_zero, List.set_cons_succ]
        refine takeNo (i := 20) (d := 37) rfl rfl (by kernel_rfl) (by kernel_rfl) (by kernel_rfl) (fun _ _ _ h => h) (by rfl) (by assumption) ?_
        try simp only [List.setIfInBounds_toArray, List.set_cons_zero, List.set_cons_succ]
        refine takeNo (i := 21) (d := 38) rfl rfl (by kernel_rfl) (by kernel_rfl) (by kernel_rfl) (fun _ _ _ h => h) (by rfl) (by assumption) ?_
        try simp only [List.setIfInBounds_toArray, List.set_cons_zero, List.set_cons_succ]
        refine takeNo (i := 22) (d := 39) rfl rfl (by kernel_rfl) (by kernel_rfl) (by kernel_rfl) (fun _ _ _ h => h) (by rfl) (by assumption) ?_
        try simp only [List.setIfInBounds_toArray, List.set_cons_zero, List.set_cons_succ]
        refine takeNo (i := 23) (d := 40) rfl rfl (by kernel_rfl) (by kernel_rfl) (by kernel_rfl) (fun _ _ _ h => h) (by rfl) (by assumption) ?_
        try simp only [List.setIfInBounds_toArray, List.set_cons_zero, List.set_cons_succ]
        refine takeNo (i := 24) (d := 41) rfl rfl (by kernel_rfl) (by kernel_rfl) (by kernel_rfl) (fun _ _ _ h => h) (by rfl) (by assumption) ?_
        try simp only [List.setIfInBounds_toArray, List.set_cons_zero, List.set_cons_succ]
        refine takeNo (i := 25) (d := 42) rfl rfl (by kernel_rfl) (by kernel_rfl) (by kernel_rfl) (fun _ _ _ h => h) (by rfl) (by assumption) ?_
        try simp only [List.setIfInBounds_toArray, List.set_cons_zero, List.set_cons_succ]
        refine takeNo (i := 26) (d := 43) rfl rfl (by kernel_rfl) (by kernel_rfl) (by kernel_rfl) (fun _ _ _ h => h) (by rfl) (by assumption) ?_
        try simp only [List.setIfInBounds_toArray, List.set_cons_zero, List.set_cons_succ]
        refine takeNo (i := 27) (d := 44) rfl rfl (by kernel_rfl) (by kernel_rfl) (by kernel_rfl) (fun _ _ _ h => h) (by rfl) (by assumption) ?_
        try simp only [List.setIfInBounds_toArray, List.set_cons_zero, List.set_cons_succ]
        refine takeNo (i := 28) (d := 45) rfl rfl (by kernel_rfl) (by kernel_rfl) (by kernel_rfl) (fun _ _ _ h => h) (by rfl) (by assumption) ?_
        try simp only [List.setIfInBounds_toArray, List.set_cons_zero, List.set_cons_succ]
        refine takeNo (i := 29) (d := 46) rfl rfl (by kernel_rfl) (by kernel_rfl) (by kernel_rfl) (fun _ _ _ h => h) (by rfl) (by assumption) ?_
        try simp only [List.setIfInBounds_toArray, List.set_cons_zero, List.set_cons_succ]
        refine wpAnyH_ready (rs := [30]) (by kernel_rfl) (by simp) ?_
        refine AllReadyH.cons rfl (fun K hK => ?_) AllReadyH.nil
        go_simp
        refine hK.out _ _ ?_ (fun hHeld30 => ?_)
        · (try dsimp only); refine ⟨?_, ?_, ?_, ?_⟩ <;> first | (go_simp; done) | (exact cell_later (by assumption) (by go_simp))
        clear hK
        refine takeNo (i := 31) (d := 48) rfl rfl (by kernel_rfl) (by kernel_rfl) (by kernel_rfl) (fun _ _ _ h => h) (by rfl) (by assumption) ?_
        try simp only [List.setIfInBounds_toArray, List.set_cons_zero, List.set_cons_succ]
        refine takeNo (i := 32) (d := 49) rfl rfl (by kernel_rfl) (by kernel_rfl) (by kernel_rfl) (fun _ _ _ h => h) (by rfl) (by assumption) ?_
        try simp only [List.setIfInBounds_toArray, List.set_cons_zero, List.set_cons_succ]
        refine takeYes (i := 33) (d := 50) (v := ?_) rfl rfl (by kernel_rfl) (by kernel_rfl) (by kernel_rfl) (fun _ _ _ h => h) (by rfl) (by assumption) ?_ ?_
        rotate_left
        · intro w' hSw; (try dsimp only at hSw); go_simp; try exact rfl
        try simp only [List.setIfInBounds_toArray, List.set_cons_zero, List.set_cons_succ]
        refine wpAnyH_done (by kernel_rfl) ?_ _
        go_wp2
        go_returns
        refine ⟨ret_bool ?_, by repeat (first | exact Below.refl _ _ | refine Below.drew ?_ | refine Below.alloc ?_ (by first | (simp; done) | (simp; omega) | omega) _ | refine Below.setCell ?_ (by first | (simp; done) | (simp; omega) | omega) _ | refine bstep (by assumption) (by first | (simp; done) | (simp; omega) | omega) ?_)⟩
        unfold okBag
        rw [HE.out, HS.out, HN.out]
        simp
      have hn1 : (x.n == 0) = false := by simpa using hn0
      by_cases hcn : (decide (-1000000000 ≤ x.n) && decide (x.n ≤ 1000000000)) = true
      rotate_left
      · have HN : Hid (okN x.n = false) := okN_out hcn
        have hcf : (decide (-1000000000 ≤ x.n) && decide (x.n ≤ 1000000000)) = false := by simpa using hcn
        subst hq
        clear ha hw hL hx hn0 hcn
        go_wp2_with fail
        refine wp_region_held_drew (S := (fun w' => w'.cell? ⟨w.heap.size, 0, none⟩ = some (.int .i64 W) ∧ w'.cell? ⟨w.heap.size, 1, none⟩ = some (.slice (some ⟨b, o, none⟩) cs.length c) ∧ w'.cell? ⟨wr.heap.size, 0, none⟩ = some (.slice ur lr cr) ∧ w'.cell? ⟨wr.heap.size, 1, none⟩ = some (.int .i64 x.n))) (by kernel_rfl) ?_ (fun hHeld => ?_)
        · (try dsimp only); refine ⟨?_, ?_, ?_, ?_⟩ <;> first | (go_simp; done) | (exact cell_later (by assumption) (by go_simp))
        refine takeYes (i := 0) (d := 17) (v := ?_) rfl rfl (by kernel_rfl) (by kernel_rfl) (by kernel_rfl) (fun _ _ _ h => h) (by rfl) (by assumption) ?_ ?_
        rotate_left
        · intro w' hSw; (try dsimp only at hSw); go_simp; try exact rfl
        try simp only [List.setIfInBounds_toArray, List.set_cons_zero, List.set_cons_succ]
        refine takeYes (i := 1) (d := 18) (v := ?_) rfl rfl (by kernel_rfl) (by kernel_rfl) (by kernel_rfl) (fun _ _ _ h => h) (by rfl) (by assumption) ?_ ?_
        rotate_left
        · intro w' hSw; (try dsimp only at hSw); go_simp; try exact rfl
        try simp only [List.setIfInBounds_toArray, List.set_cons_zero, List.set_cons_succ]
        refine takeYes (i := 2) (d := 19) (v := ?_) rfl rfl (by kernel_rfl) (by kernel_rfl) (by kernel_rfl) (fun _ _ _ h => h) (by rfl) (by assumption) ?_ ?_
        rotate_left
        · intro w' hSw; (try dsimp only at hSw); go_simp; try exact rfl
        try simp only [List.setIfInBounds_toArray, List.set_cons_zero, List.set_cons_succ]
        refine takeYes (i := 3) (d := 20) (v := ?_) rfl rfl (by kernel_rfl) (by kernel_rfl) (by kernel_rfl) (fun _ _ _ h => h) (by rfl) (by assumption) ?_ ?_
        rotate_left
        · intro w' hSw; (try dsimp only at hSw); go_simp; try exact rfl
        try simp only [List.setIfInBounds_toArray, List.set_cons_zero, List.set_cons_succ]
        refine wpAnyH_ready (rs := [4]) (by kernel_rfl) (by simp) ?_
        refine AllReadyH.cons rfl (fun K hK => ?_) AllReadyH.nil
        go_simp
        go_at_call 107
        refine Calls.mono (l02Row_any (.slice ur lr cr) x.r W _ (hR.below (by repeat (first | exact Below.refl _ _ | refine Below.drew ?_ | refine Below.alloc ?_ (by first | (simp; done) | (simp; omega) | omega) _ | refine Below.setCell ?_ (by first | (simp; done) | (simp; omega) | omega) _ | refine bstep (by assumption) (by first | (simp; done) | (simp; omega) | omega) ?_))) hxw) ?_
        rintro e w1 ⟨rfl, hb1⟩
        have hz1 := hb1.size
        (try simp at hz1)
        try go_wp2_with fail
        refine hK.out _ _ ?_ (fun hHeld4 => ?_)
        · (try dsimp only); refine ⟨?_, ?_, ?_, ?_⟩ <;> first | (go_simp; done) | (exact cell_later (by assumption) (by go_simp))
        clear hK
        refine takeYes (i := 5) (d := 22) (v := ?_) rfl rfl (by kernel_rfl) (by kernel_rfl) (by kernel_rfl) (fun _ _ _ h => h) (by rfl) (by assumption) ?_ ?_
        rotate_left
        · intro w' hSw; (try dsimp only at hSw); go_simp; try exact rfl
        try simp only [List.setIfInBounds_toArray, List.set_cons_zero, List.set_cons_succ]
        refine takeYes (i := 6) (d := 23) (v := ?_) rfl rfl (by kernel_rfl) (by kernel_rfl) (by kernel_rfl) (fun _ _ _ h => h) (by rfl) (by assumption) ?_ ?_
        rotate_left
        · intro w' hSw; (try dsimp only at hSw); go_simp; try exact rfl
        try simp only [List.setIfInBounds_toArray, List.set_cons_zero, List.set_cons_succ]
        refine takeYes (i := 7) (d := 24) (v := ?_) rfl rfl (by kernel_rfl) (by kernel_rfl) (by kernel_rfl) (fun _ _ _ h => h) (by rfl) (by assumption) ?_ ?_
        rotate_left
        · intro w' hSw; (try dsimp only at hSw); go_simp; try exact rfl
        try simp only [List.setIfInBounds_toArray, List.set_cons_zero, List.set_cons_succ]
        refine takeYes (i := 8) (d := 25) (v := ?_) rfl rfl (by kernel_rfl) (by kernel_rfl) (by kernel_rfl) (fun _ _ _ h => h) (by rfl) (by assumption) ?_ ?_
        rotate_left
        · intro w' hSw; (try dsimp only at hSw); go_simp; try exact rfl
        try simp only [List.setIfInBounds_toArray, List.set_cons_zero, List.set_cons_succ]
        refine takeYes (i := 9) (d := 26) (v := ?_) rfl rfl (by kernel_rfl) (by kernel_rfl) (by kernel_rfl) (fun _ _ _ h => h) (by rfl) (by assumption) ?_ ?_
        rotate_left
        · intro w' hSw; (try dsimp only at hSw); go_simp; try exact rfl
        try simp only [List.setIfInBounds_toArray, List.set_cons_zero, List.set_cons_succ]
        refine takeYes (i := 10) (d := 27) (v := ?_) rfl rfl (by kernel_rfl) (by kernel_rfl) (by kernel_rfl) (fun _ _ _ h => h) (by rfl) (by assumption) ?_ ?_
        rotate_left
        · intro w' hSw; (try dsimp only at hSw); go_simp; try exact rfl
        try simp only [List.setIfInBounds_toArray, List.set_cons_zero, List.set_cons_succ]
        refine takeYes (i := 11) (d := 28) (v := ?_) rfl rfl (by kernel_rfl) (by kernel_rfl) (by kernel_rfl) (fun _ _ _ h => h) (by rfl) (by assumption) ?_ ?_
        rotate_left
        · intro w' hSw; (try dsimp only at hSw); go_simp; try exact rfl
        try simp only [List.setIfInBounds_toArray, List.set_cons_zero, List.set_cons_succ]
        refine takeYes (i := 12) (d := 29) (v := ?_) rfl rfl (by kernel_rfl) (by kernel_rfl) (by kernel_rfl) (fun _ _ _ h => h) (by rfl) (by assumption) ?_ ?_
        rotate_left
        · intro w' hSw; (try dsimp only at hSw); go_simp; try exact rfl
        try simp only [List.setIfInBounds_toArray, List.set_cons_zero, List.set_cons_succ]
        refine takeYes (i := 13) (d := 30) (v := ?_) rfl rfl (by kernel_rfl) (by kernel_rfl) (by kernel_rfl) (fun _ _ _ h => h) (by rfl) (by assumption) ?_ ?_
        rotate_left
        · intro w' hSw; (try dsimp only at hSw); go_simp; try exact rfl
        try simp only [List.setIfInBounds_toArray, List.set_cons_zero, List.set_cons_succ]
        refine wpAnyH_ready (rs := [14]) (by kernel_rfl) (by simp) ?_
        refine AllReadyH.cons rfl (fun K hK => ?_) AllReadyH.nil
        go_simp
        go_at_call 68
        refine Calls.mono (l01In_any x.n (-1000000000) 1000000000 _) ?_
        rintro e w2 ⟨rfl, hb2⟩
        have hz2 := hb2.size
        (try simp at hz2)
        try go_wp2_with fail
        refine hK.out _ _ ?_ (fun hHeld14 => ?_)
        · (try dsimp only); refine ⟨?_, ?_, ?_, ?_⟩ <;> first | (go_simp; done) | (exact cell_later (by assumption) (by go_simp))
        clear hK
        refine takeYes (i := 15) (d := 32) (v := ?_) rfl rfl (by kernel_rfl) (by kernel_rfl) (by kernel_rfl) (fun _ _ _ h => h) (by rfl) (by assumption) ?_ ?_
        rotate_left
        · intro w' hSw; (try dsimp only at hSw); go_simp; try exact rfl
        try simp only [List.setIfInBounds_toArray, List.set_cons_zero, List.set_cons_succ]
        refine takeYes (i := 16) (d := 33) (v := ?_) rfl rfl (by kernel_rfl) (by kernel_rfl) (by kernel_rfl) (fun _ _ _ h => h) (by rfl) (by assumption) ?_ ?_
        rotate_left
        · intro w' hSw; (try dsimp only at hSw); go_simp; try exact rfl
        try simp only [List.setIfInBounds_toArray, List.set_cons_zero, List.set_cons_succ]
        refine takeYes (i := 17) (d := 34) (v := ?_) rfl rfl (by kernel_rfl) (by kernel_rfl) (by kernel_rfl) (fun _ _ _ h => h) (by rfl) (by assumption) ?_ ?_
        rotate_left
        · intro w' hSw; (try dsimp only at hSw); go_simp; try exact rfl
        try simp only [List.setIfInBounds_toArray, List.set_cons_zero, List.set_cons_succ]
        refine takeNo (i := 18) (d := 35) rfl rfl (by kernel_rfl) (by kernel_rfl) (by kernel_rfl) (fun _ _ _ h => h) (by rfl) (by assumption) ?_
        try simp only [List.setIfInBounds_toArray, List.set_cons_zero, List.set_cons_succ]
        refine takeNo (i := 19) (d := 36) rfl rfl (by kernel_rfl) (by kernel_rfl) (by kernel_rfl) (fun _ _ _ h => h) (by rfl) (by assumption) ?_
        try simp only [List.setIfInBounds_toArray, List.set_cons_zero, List.set_cons_succ]
        refine takeNo (i := 20) (d := 37) rfl rfl (by kernel_rfl) (by kernel_rfl) (by kernel_rfl) (fun _ _ _ h => h) (by rfl) (by assumption) ?_
        try simp only [List.setIfInBounds_toArray, List.set_cons_zero, List.set_cons_succ]
        refine takeNo (i := 21) (d := 38) rfl rfl (by kernel_rfl) (by kernel_rfl) (by kernel_rfl) (fun _ _ _ h => h) (by rfl) (by assumption) ?_
        try simp only [List.setIfInBounds_toArray, List.set_cons_zero, List.set_cons_succ]
        refine takeNo (i := 22) (d := 39) rfl rfl (by kernel_rfl) (by kernel_rfl) (by kernel_rfl) (fun _ _ _ h => h) (by rfl) (by assumption) ?_
        try simp only [List.setIfInBounds_toArray, List.set_cons_zero, List.set_cons_succ]
        refine takeNo (i := 23) (d := 40) rfl rfl (by kernel_rfl) (by kernel_rfl) (by kernel_rfl) (fun _ _ _ h => h) (by rfl) (by assumption) ?_
        try simp only [List.setIfInBounds_toArray, List.set_cons_zero, List.set_cons_succ]
        refine takeNo (i := 24) (d := 41) rfl rfl (by kernel_rfl) (by kernel_rfl) (by kernel_rfl) (fun _ _ _ h => h) (by rfl) (by assumption) ?_
        try simp only [List.setIfInBounds_toArray, List.set_cons_zero, List.set_cons_succ]
        refine takeNo (i := 25) (d := 42) rfl rfl (by kernel_rfl) (by kernel_rfl) (by kernel_rfl) (fun _ _ _ h => h) (by rfl) (by assumption) ?_
        try simp only [List.setIfInBounds_toArray, List.set_cons_zero, List.set_cons_succ]
        refine takeNo (i := 26) (d := 43) rfl rfl (by kernel_rfl) (by kernel_rfl) (by kernel_rfl) (fun _ _ _ h => h) (by rfl) (by assumption) ?_
        try simp only [List.setIfInBounds_toArray, List.set_cons_zero, List.set_cons_succ]
        refine takeNo (i := 27) (d := 44) rfl rfl (by kernel_rfl) (by kernel_rfl) (by kernel_rfl) (fun _ _ _ h => h) (by rfl) (by assumption) ?_
        try simp only [List.setIfInBounds_toArray, List.set_cons_zero, List.set_cons_succ]
        refine takeNo (i := 28) (d := 45) rfl rfl (by kernel_rfl) (by kernel_rfl) (by kernel_rfl) (fun _ _ _ h => h) (by rfl) (by assumption) ?_
        try simp only [List.setIfInBounds_toArray, List.set_cons_zero, List.set_cons_succ]
        refine takeNo (i := 29) (d := 46) rfl rfl (by kernel_rfl) (by kernel_rfl) (by kernel_rfl) (fun _ _ _ h => h) (by rfl) (by assumption) ?_
        try simp only [List.setIfInBounds_toArray, List.set_cons_zero, List.set_cons_succ]
        refine wpAnyH_ready (rs := [30]) (by kernel_rfl) (by simp) ?_
        refine AllReadyH.cons rfl (fun K hK => ?_) AllReadyH.nil
        go_simp
        refine hK.out _ _ ?_ (fun hHeld30 => ?_)
        · (try dsimp only); refine ⟨?_, ?_, ?_, ?_⟩ <;> first | (go_simp; done) | (exact cell_later (by assumption) (by go_simp))
        clear hK
        refine takeNo (i := 31) (d := 48) rfl rfl (by kernel_rfl) (by kernel_rfl) (by kernel_rfl) (fun _ _ _ h => h) (by rfl) (by assumption) ?_
        try simp only [List.setIfInBounds_toArray, List.set_cons_zero, List.set_cons_succ]
        refine takeNo (i := 32) (d := 49) rfl rfl (by kernel_rfl) (by kernel_rfl) (by kernel_rfl) (fun _ _ _ h => h) (by rfl) (by assumption) ?_
        try simp only [List.setIfInBounds_toArray, List.set_cons_zero, List.set_cons_succ]
        refine takeYes (i := 33) (d := 50) (v := ?_) rfl rfl (by kernel_rfl) (by kernel_rfl) (by kernel_rfl) (fun _ _ _ h => h) (by rfl) (by assumption) ?_ ?_
        rotate_left
        · intro w' hSw; (try dsimp only at hSw); go_simp; try exact rfl
        try simp only [List.setIfInBounds_toArray, List.set_cons_zero, List.set_cons_succ]
        refine wpAnyH_done (by kernel_rfl) ?_ _
        go_wp2
        go_returns
        refine ⟨ret_bool ?_, by repeat (first | exact Below.refl _ _ | refine Below.drew ?_ | refine Below.alloc ?_ (by first | (simp; done) | (simp; omega) | omega) _ | refine Below.setCell ?_ (by first | (simp; done) | (simp; omega) | omega) _ | refine bstep (by assumption) (by first | (simp; done) | (simp; omega) | omega) ?_)⟩
        unfold okBag
        rw [HE.out, HS.out, HN.out]
        simp
      have HN : Hid (okN x.n = true) := okN_in hn0 hcn
      clear hn0
      rcases Nat.eq_zero_or_pos k with hk0 | hk0
      · subst hk0
        obtain rfl : q = 0 := by simpa using hq
        rw [Nat.zero_mul, Nat.add_zero] at c0
        rw [Nat.zero_mul, Nat.add_zero] at c1
        clear ha hw hL hx hq
        go_wp2_with fail
        refine wp_region_held_drew (S := (fun w' => w'.cell? ⟨w.heap.size, 0, none⟩ = some (.int .i64 W) ∧ w'.cell? ⟨w.heap.size, 1, none⟩ = some (.slice (some ⟨b, o, none⟩) cs.length c) ∧ w'.cell? ⟨wr.heap.size, 0, none⟩ = some (.slice ur lr cr) ∧ w'.cell? ⟨wr.heap.size, 1, none⟩ = some (.int .i64 x.n))) (by kernel_rfl) ?_ (fun hHeld => ?_)
        · (try dsimp only); refine ⟨?_, ?_, ?_, ?_⟩ <;> first | (go_simp; done) | (exact cell_later (by assumption) (by go_simp))
        refine takeYes (i := 0) (d := 17) (v := ?_) rfl rfl (by kernel_rfl) (by kernel_rfl) (by kernel_rfl) (fun _ _ _ h => h) (by rfl) (by assumption) ?_ ?_
        rotate_left
        · intro w' hSw; (try dsimp only at hSw); go_simp; try exact rfl
        try simp only [List.setIfInBounds_toArray, List.set_cons_zero, List.set_cons_succ]
        refine takeYes (i := 1) (d := 18) (v := ?_) rfl rfl (by kernel_rfl) (by kernel_rfl) (by kernel_rfl) (fun _ _ _ h => h) (by rfl) (by assumption) ?_ ?_
        rotate_left
        · intro w' hSw; (try dsimp only at hSw); go_simp; try exact rfl
        try simp only [List.setIfInBounds_toArray, List.set_cons_zero, List.set_cons_succ]
        refine takeYes (i := 2) (d := 19) (v := ?_) rfl rfl (by kernel_rfl) (by kernel_rfl) (by kernel_rfl) (fun _ _ _ h => h) (by rfl) (by assumption) ?_ ?_
        rotate_left
        · intro w' hSw; (try dsimp only at hSw); go_simp; try exact rfl
        try simp only [List.setIfInBounds_toArray, List.set_cons_zero, List.set_cons_succ]
        refine takeYes (i := 3) (d := 20) (v := ?_) rfl rfl (by kernel_rfl) (by kernel_rfl) (by kernel_rfl) (fun _ _ _ h => h) (by rfl) (by assumption) ?_ ?_
        rotate_left
        · intro w' hSw; (try dsimp only at hSw); go_simp; try exact rfl
        try simp only [List.setIfInBounds_toArray, List.set_cons_zero, List.set_cons_succ]
        refine wpAnyH_ready (rs := [4]) (by kernel_rfl) (by simp) ?_
        refine AllReadyH.cons rfl (fun K hK => ?_) AllReadyH.nil
        go_simp
        go_at_call 107
        refine Calls.mono (l02Row_any (.slice ur lr cr) x.r W _ (hR.below (by repeat (first | exact Below.refl _ _ | refine Below.drew ?_ | refine Below.alloc ?_ (by first | (simp; done) | (simp; omega) | omega) _ | refine Below.setCell ?_ (by first | (simp; done) | (simp; omega) | omega) _ | refine bstep (by assumption) (by first | (simp; done) | (simp; omega) | omega) ?_))) hxw) ?_
        rintro e w1 ⟨rfl, hb1⟩
        have hz1 := hb1.size
        (try simp at hz1)
        try go_wp2_with fail
        refine hK.out _ _ ?_ (fun hHeld4 => ?_)
        · (try dsimp only); refine ⟨?_, ?_, ?_, ?_⟩ <;> first | (go_simp; done) | (exact cell_later (by assumption) (by go_simp))
        clear hK
        refine takeYes (i := 5) (d := 22) (v := ?_) rfl rfl (by kernel_rfl) (by kernel_rfl) (by kernel_rfl) (fun _ _ _ h => h) (by rfl) (by assumption) ?_ ?_
        rotate_left
        · intro w' hSw; (try dsimp only at hSw); go_simp; try exact rfl
        try simp only [List.setIfInBounds_toArray, List.set_cons_zero, List.set_cons_succ]
        refine takeYes (i := 6) (d := 23) (v := ?_) rfl rfl (by kernel_rfl) (by kernel_rfl) (by kernel_rfl) (fun _ _ _ h => h) (by rfl) (by assumption) ?_ ?_
        rotate_left
        · intro w' hSw; (try dsimp only at hSw); go_simp; try exact rfl
        try simp only [List.setIfInBounds_toArray, List.set_cons_zero, List.set_cons_succ]
        refine takeYes (i := 7) (d := 24) (v := ?_) rfl rfl (by kernel_rfl) (by kernel_rfl) (by kernel_rfl) (fun _ _ _ h => h) (by rfl) (by assumption) ?_ ?_
        rotate_left
        · intro w' hSw; (try dsimp only at hSw); go_simp; try exact rfl
        try simp only [List.setIfInBounds_toArray, List.set_cons_zero, List.set_cons_succ]
        refine takeYes (i := 8) (d := 25) (v := ?_) rfl rfl (by kernel_rfl) (by kernel_rfl) (by kernel_rfl) (fun _ _ _ h => h) (by rfl) (by assumption) ?_ ?_
        rotate_left
        · intro w' hSw; (try dsimp only at hSw); go_simp; try exact rfl
        try simp only [List.setIfInBounds_toArray, List.set_cons_zero, List.set_cons_succ]
        refine takeYes (i := 9) (d := 26) (v := ?_) rfl rfl (by kernel_rfl) (by kernel_rfl) (by kernel_rfl) (fun _ _ _ h => h) (by rfl) (by assumption) ?_ ?_
        rotate_left
        · intro w' hSw; (try dsimp only at hSw); go_simp; try exact rfl
        try simp only [List.setIfInBounds_toArray, List.set_cons_zero, List.set_cons_succ]
        refine takeYes (i := 10) (d := 27) (v := ?_) rfl rfl (by kernel_rfl) (by kernel_rfl) (by kernel_rfl) (fun _ _ _ h => h) (by rfl) (by assumption) ?_ ?_
        rotate_left
        · intro w' hSw; (try dsimp only at hSw); go_simp; try exact rfl
        try simp only [List.setIfInBounds_toArray, List.set_cons_zero, List.set_cons_succ]
        refine takeYes (i := 11) (d := 28) (v := ?_) rfl rfl (by kernel_rfl) (by kernel_rfl) (by kernel_rfl) (fun _ _ _ h => h) (by rfl) (by assumption) ?_ ?_
        rotate_left
        · intro w' hSw; (try dsimp only at hSw); go_simp; try exact rfl
        try simp only [List.setIfInBounds_toArray, List.set_cons_zero, List.set_cons_succ]
        refine takeYes (i := 12) (d := 29) (v := ?_) rfl rfl (by kernel_rfl) (by kernel_rfl) (by kernel_rfl) (fun _ _ _ h => h) (by rfl) (by assumption) ?_ ?_
        rotate_left
        · intro w' hSw; (try dsimp only at hSw); go_simp; try exact rfl
        try simp only [List.setIfInBounds_toArray, List.set_cons_zero, List.set_cons_succ]
        refine takeYes (i := 13) (d := 30) (v := ?_) rfl rfl (by kernel_rfl) (by kernel_rfl) (by kernel_rfl) (fun _ _ _ h => h) (by rfl) (by assumption) ?_ ?_
        rotate_left
        · intro w' hSw; (try dsimp only at hSw); go_simp; try exact rfl
        try simp only [List.setIfInBounds_toArray, List.set_cons_zero, List.set_cons_succ]
        refine wpAnyH_ready (rs := [14]) (by kernel_rfl) (by simp) ?_
        refine AllReadyH.cons rfl (fun K hK => ?_) AllReadyH.nil
        go_simp
        go_at_call 68
        refine Calls.mono (l01In_any x.n (-1000000000) 1000000000 _) ?_
        rintro e w2 ⟨rfl, hb2⟩
        have hz2 := hb2.size
        (try simp at hz2)
        try go_wp2_with fail
        refine hK.out _ _ ?_ (fun hHeld14 => ?_)
        · (try dsimp only); refine ⟨?_, ?_, ?_, ?_⟩ <;> first | (go_simp; done) | (exact cell_later (by assumption) (by go_simp))
        clear hK
        refine takeYes (i := 15) (d := 32) (v := ?_) rfl rfl (by kernel_rfl) (by kernel_rfl) (by kernel_rfl) (fun _ _ _ h => h) (by rfl) (by assumption) ?_ ?_
        rotate_left
        · intro w' hSw; (try dsimp only at hSw); go_simp; try exact rfl
        try simp only [List.setIfInBounds_toArray, List.set_cons_zero, List.set_cons_succ]
        refine takeYes (i := 16) (d := 33) (v := ?_) rfl rfl (by kernel_rfl) (by kernel_rfl) (by kernel_rfl) (fun _ _ _ h => h) (by rfl) (by assumption) ?_ ?_
        rotate_left
        · intro w' hSw; (try dsimp only at hSw); go_simp; try exact rfl
        try simp only [List.setIfInBounds_toArray, List.set_cons_zero, List.set_cons_succ]
        refine takeYes (i := 17) (d := 34) (v := ?_) rfl rfl (by kernel_rfl) (by kernel_rfl) (by kernel_rfl) (fun _ _ _ h => h) (by rfl) (by assumption) ?_ ?_
        rotate_left
        · intro w' hSw; (try dsimp only at hSw); go_simp; try exact rfl
        try simp only [List.setIfInBounds_toArray, List.set_cons_zero, List.set_cons_succ]
        refine takeYes (i := 18) (d := 35) (v := ?_) rfl rfl (by kernel_rfl) (by kernel_rfl) (by kernel_rfl) (fun _ _ _ h => h) (by rfl) (by assumption) ?_ ?_
        rotate_left
        · intro w' hSw; (try dsimp only at hSw); go_simp; try exact rfl
        try simp only [List.setIfInBounds_toArray, List.set_cons_zero, List.set_cons_succ]
        refine takeYes (i := 19) (d := 36) (v := ?_) rfl rfl (by kernel_rfl) (by kernel_rfl) (by kernel_rfl) (fun _ _ _ h => h) (by rfl) (by assumption) ?_ ?_
        rotate_left
        · intro w' hSw; (try dsimp only at hSw); go_simp; try exact rfl
        try simp only [List.setIfInBounds_toArray, List.set_cons_zero, List.set_cons_succ]
        refine takeYes (i := 20) (d := 37) (v := ?_) rfl rfl (by kernel_rfl) (by kernel_rfl) (by kernel_rfl) (fun _ _ _ h => h) (by rfl) (by assumption) ?_ ?_
        rotate_left
        · intro w' hSw; (try dsimp only at hSw); go_simp; try exact rfl
        try simp only [List.setIfInBounds_toArray, List.set_cons_zero, List.set_cons_succ]
        refine takeNo (i := 21) (d := 38) rfl rfl (by kernel_rfl) (by kernel_rfl) (by kernel_rfl) (fun _ _ _ h => h) (by rfl) (by assumption) ?_
        try simp only [List.setIfInBounds_toArray, List.set_cons_zero, List.set_cons_succ]
        refine takeNo (i := 22) (d := 39) rfl rfl (by kernel_rfl) (by kernel_rfl) (by kernel_rfl) (fun _ _ _ h => h) (by rfl) (by assumption) ?_
        try simp only [List.setIfInBounds_toArray, List.set_cons_zero, List.set_cons_succ]
        refine takeNo (i := 23) (d := 40) rfl rfl (by kernel_rfl) (by kernel_rfl) (by kernel_rfl) (fun _ _ _ h => h) (by rfl) (by assumption) ?_
        try simp only [List.setIfInBounds_toArray, List.set_cons_zero, List.set_cons_succ]
        refine takeNo (i := 24) (d := 41) rfl rfl (by kernel_rfl) (by kernel_rfl) (by kernel_rfl) (fun _ _ _ h => h) (by rfl) (by assumption) ?_
        try simp only [List.setIfInBounds_toArray, List.set_cons_zero, List.set_cons_succ]
        refine takeNo (i := 25) (d := 42) rfl rfl (by kernel_rfl) (by kernel_rfl) (by kernel_rfl) (fun _ _ _ h => h) (by rfl) (by assumption) ?_
        try simp only [List.setIfInBounds_toArray, List.set_cons_zero, List.set_cons_succ]
        refine takeNo (i := 26) (d := 43) rfl rfl (by kernel_rfl) (by kernel_rfl) (by kernel_rfl) (fun _ _ _ h => h) (by rfl) (by assumption) ?_
        try simp only [List.setIfInBounds_toArray, List.set_cons_zero, List.set_cons_succ]
        refine takeNo (i := 27) (d := 44) rfl rfl (by kernel_rfl) (by kernel_rfl) (by kernel_rfl) (fun _ _ _ h => h) (by rfl) (by assumption) ?_
        try simp only [List.setIfInBounds_toArray, List.set_cons_zero, List.set_cons_succ]
        refine takeNo (i := 28) (d := 45) rfl rfl (by kernel_rfl) (by kernel_rfl) (by kernel_rfl) (fun _ _ _ h => h) (by rfl) (by assumption) ?_
        try simp only [List.setIfInBounds_toArray, List.set_cons_zero, List.set_cons_succ]
        refine takeNo (i := 29) (d := 46) rfl rfl (by kernel_rfl) (by kernel_rfl) (by kernel_rfl) (fun _ _ _ h => h) (by rfl) (by assumption) ?_
        try simp only [List.setIfInBounds_toArray, List.set_cons_zero, List.set_cons_succ]
        refine wpAnyH_ready (rs := [30]) (by kernel_rfl) (by simp) ?_
        refine AllReadyH.cons rfl (fun K hK => ?_) AllReadyH.nil
        go_simp
        refine hK.out _ _ ?_ (fun hHeld30 => ?_)
        · (try dsimp only); refine ⟨?_, ?_, ?_, ?_⟩ <;> first | (go_simp; done) | (exact cell_later (by assumption) (by go_simp))
        clear hK
        refine takeNo (i := 31) (d := 48) rfl rfl (by kernel_rfl) (by kernel_rfl) (by kernel_rfl) (fun _ _ _ h => h) (by rfl) (by assumption) ?_
        try simp only [List.setIfInBounds_toArray, List.set_cons_zero, List.set_cons_succ]
        refine takeYes (i := 32) (d := 49) (v := ?_) rfl rfl (by kernel_rfl) (by kernel_rfl) (by kernel_rfl) (fun _ _ _ h => h) (by rfl) (by assumption) ?_ ?_
        rotate_left
        · intro w' hSw; (try dsimp only at hSw); go_simp; try exact rfl
        try simp only [List.setIfInBounds_toArray, List.set_cons_zero, List.set_cons_succ]
        refine takeYes (i := 33) (d := 50) (v := ?_) rfl rfl (by kernel_rfl) (by kernel_rfl) (by kernel_rfl) (fun _ _ _ h => h) (by rfl) (by assumption) ?_ ?_
        rotate_left
        · intro w' hSw; (try dsimp only at hSw); go_simp; try exact rfl
        try simp only [List.setIfInBounds_toArray, List.set_cons_zero, List.set_cons_succ]
        refine wpAnyH_done (by kernel_rfl) ?_ _
        obtain ⟨r0, r1, _⟩ := hHeld30
        go_wp2
        go_roundw
        case rel =>
          refine ⟨1, 1, hlt, rfl, by simp, by repeat (first | exact Below.refl _ _ | refine Below.drew ?_ | refine Below.alloc ?_ (by first | (simp; done) | (simp; omega) | omega) _ | refine Below.setCell ?_ (by first | (simp; done) | (simp; omega) | omega) _ | refine bstep (by assumption) (by first | (simp; done) | (simp; omega) | omega) ?_), by (first | omega | (simp; omega)), r0, r1, ?_⟩
          rw [HE.out, HS.out, hok, HN.out, prev_zero]
          simp [okPrev]
        case measure => simp [intOf]; omega
      · obtain ⟨j, rfl⟩ : ∃ j, k = j + 1 := ⟨k - 1, by omega⟩
        obtain rfl : q = (j : Int) + 1 := by omega
        obtain ⟨y, t, hy, d0, hT, d1, _⟩ := hL.at hblt hb (show j < cs.length by omega)
        have HP : Hid (prev cs (j + 1) = some y) := prev_succ hy
        have HQ : Hid (okPrev (prev cs (j + 1)) x = decide (cmpRow y.r x.r < 0)) := by rw [HP.out]; rfl
        have hw1 : IntKind.i64.wrap (j : Int) = j := by rw [IntKind.wrap_i64]; omega
        have hw2 : IntKind.i64.wrap ((j : Int) + 1 - 1) = j := by rw [IntKind.wrap_i64]; omega
        have hi0 : (0 : Int) ≤ j := by omega
        have hi1 : (j : Int) < cs.length := by omega
        have hi2 : (0 : Int) < (j : Int) + 1 := by omega
        clear ha hw hL hx hy hq
        go_wp2_with fail
        go_region_held3 (fun w' => w'.cell? ⟨w.heap.size, 0, none⟩ = some (.int .i64 W) ∧ w'.cell? ⟨w.heap.size, 1, none⟩ = some (.slice (some ⟨b, o, none⟩) cs.length c) ∧ w'.cell? ⟨wr.heap.size, 0, none⟩ = some (.slice ur lr cr) ∧ w'.cell? ⟨wr.heap.size, 1, none⟩ = some (.int .i64 x.n) ∧ w'.cell? ⟨b, o + j * 2, none⟩ = some t) (refine ⟨?_, ?_, ?_, ?_, ?_⟩ <;> first | (go_simp; done) | (exact cell_later (by assumption) (by go_simp))) (first | (go_at_call 107; refine Calls.mono (l02Row_any (.slice ur lr cr) x.r W _ (hR.below (by repeat (first | exact Below.refl _ _ | refine Below.drew ?_ | refine Below.alloc ?_ (by first | (simp; done) | (simp; omega) | omega) _ | refine Below.setCell ?_ (by first | (simp; done) | (simp; omega) | omega) _ | refine bstep (by assumption) (by first | (simp; done) | (simp; omega) | omega) ?_))) hxw) ?_; rintro e w1 ⟨rfl, hb1⟩; have hz1 := hb1.size; (try simp at hz1)) | (go_at_call 68; refine Calls.mono (l01In_any x.n (-1000000000) 1000000000 _) ?_; rintro e w2 ⟨rfl, hb2⟩; have hz2 := hb2.size; (try simp at hz2)) | (go_at_call 93; refine Calls.mono (specRow_any t (.slice ur lr cr) y.r x.r _ (hT.below (by repeat (first | exact Below.refl _ _ | refine Below.drew ?_ | refine Below.alloc ?_ (by first | (simp; done) | (simp; omega) | omega) _ | refine Below.setCell ?_ (by first | (simp; done) | (simp; omega) | omega) _ | refine bstep (by assumption) (by first | (simp; done) | (simp; omega) | omega) ?_))) (hR.below (by repeat (first | exact Below.refl _ _ | refine Below.drew ?_ | refine Below.alloc ?_ (by first | (simp; done) | (simp; omega) | omega) _ | refine Below.setCell ?_ (by first | (simp; done) | (simp; omega) | omega) _ | refine bstep (by assumption) (by first | (simp; done) | (simp; omega) | omega) ?_)))) ?_; rintro e w3 ⟨rfl, hb3⟩; have hz3 := hb3.size; (try simp at hz3)))
        rename_i hHeld
        obtain ⟨r0, r1, _⟩ := hHeld
        by_cases hcmp : 0 ≤ cmpRow y.r x.r
        · go_wp2
          go_returns
          refine ⟨ret_bool ?_, by repeat (first | exact Below.refl _ _ | refine Below.drew ?_ | refine Below.alloc ?_ (by first | (simp; done) | (simp; omega) | omega) _ | refine Below.setCell ?_ (by first | (simp; done) | (simp; omega) | omega) _ | refine bstep (by assumption) (by first | (simp; done) | (simp; omega) | omega) ?_)⟩
          unfold okBag
          rw [HE.out, HS.out, HQ.out]
          simp [show ¬ cmpRow y.r x.r < 0 from by omega]
        · go_wp2
          go_roundw
          case rel =>
            refine ⟨j + 1 + 1, (j : Int) + 1 + 1, hlt, by omega, by simp, by repeat (first | exact Below.refl _ _ | refine Below.drew ?_ | refine Below.alloc ?_ (by first | (simp; done) | (simp; omega) | omega) _ | refine Below.setCell ?_ (by first | (simp; done) | (simp; omega) | omega) _ | refine bstep (by assumption) (by first | (simp; done) | (simp; omega) | omega) ?_), by (first | omega | (simp; omega)), r0, r1, ?_⟩
            rw [HE.out, HS.out, HQ.out, hok, HN.out]
            simp [show cmpRow y.r x.r < 0 from by omega]
          case measure => simp [intOf]; omega
    · have HN : Hid (okCs W none cs = true) := by rw [HE.out, List.drop_eq_nil_of_le (by omega)]; exact rfl
      clear ha hw
      by_cases h0 : (decide (0 ≤ W) && decide (W ≤ 12)) = true
      · go_wp2_with (first | (go_at_call 68; refine Calls.mono (l01In_any W 0 12 _) ?_; rintro e w1 ⟨rfl, hb1⟩; have hz1 := hb1.size; have r1 : w1.cell? ⟨w.heap.size, 1, none⟩ = some (.slice a cs.length c) := cell_later hb1 (by go_simp)) | fail)
        all_goals go_returns
        all_goals refine ⟨ret_bool ?_, by repeat (first | exact Below.refl _ _ | refine Below.drew ?_ | refine Below.alloc ?_ (by first | (simp; done) | (simp; omega) | omega) _ | refine Below.setCell ?_ (by first | (simp; done) | (simp; omega) | omega) _ | refine bstep (by assumption) (by first | (simp; done) | (simp; omega) | omega) ?_)⟩
        all_goals (unfold okBag; rw [HN.out, h0, Bool.and_true, Bool.true_and])
        all_goals first | rfl | (simp; try omega)
      · go_wp2_with (first | (go_at_call 68; refine Calls.mono (l01In_any W 0 12 _) ?_; rintro e w1 ⟨rfl, hb1⟩; have hz1 := hb1.size; have r1 : w1.cell? ⟨w.heap.size, 1, none⟩ = some (.slice a cs.length c) := cell_later hb1 (by go_simp)) | fail)
        all_goals go_returns
        all_goals refine ⟨ret_bool ?_, by repeat (first | exact Below.refl _ _ | refine Below.drew ?_ | refine Below.alloc ?_ (by first | (simp; done) | (simp; omega) | omega) _ | refine Below.setCell ?_ (by first | (simp; done) | (simp; omega) | omega) _ | refine bstep (by assumption) (by first | (simp; done) | (simp; omega) | omega) ?_)⟩
        all_goals (unfold okBag; rw [show (decide (0 ≤ W) && decide (W ≤ 12)) = false from by simpa using h0, Bool.false_and, Bool.false_and])
        all_goals first | rfl | (simp_all; try omega)
end Go.Proofs.Ytdkbhoichmcodaa
/- Own text. The contract of spec.l02Right. -/
namespace Go.Proofs.Ytdkbhoichmcodaa
open Go.RowKit Go.Deep
set_option linter.unusedVariables false
attribute [local go_sem ↓] Go.wp_at_zero Go.wp_at_succ
/-- the rows where it is a bag, none where it is not. -/
def rightV (k : Bool) (v : Value) : Value := if k = true then v else .slice none 0 0
set_option maxHeartbeats 1000000 in
set_option maxRecDepth 100000 in
theorem l02Right_any (W : Int) (v : Value) (cs : List C2) (w : World) (hw : CsWf cs) (hr : RowsIs w v cs) :
    Calls Try.prog 41 #[.agg #[.int .i64 W, v]] w fun e w' => e = .returned (.agg #[.int .i64 W, rightV (okBag W cs) v]) ∧ Below w.heap.size w w' := by
  obtain ⟨a, l, c, rfl⟩ := hr.shape
  go_enter Try.func41, Try.ntmps41
  go_wp2_with fail
  refine Calls.mono (specBagOk_any W (.slice a l c) cs _ hw (hr.below ?hb)) ?_
  case hb => repeat (first | (with_reducible exact Below.refl _ _) | (with_reducible refine Below.drew ?_) | (with_reducible refine Below.alloc ?_ ?hh _; case hh => first | (simp; done) | (simp; omega) | omega) | (with_reducible refine Below.setCell ?_ ?hh _; case hh => first | (simp; done) | (simp; omega) | omega) | refine bstep (by assumption) (by first | (simp; done) | (simp; omega) | omega) ?_)
  rintro e w2 ⟨rfl, hb2⟩
  have hz2 := hb2.size
  simp only [World.size_alloc] at hz2
  have b0 : w2.cell? ⟨w.heap.size, 0, none⟩ = some (.int .i64 W) := cell_later hb2 (by go_simp)
  have b1 : w2.cell? ⟨w.heap.size, 1, none⟩ = some (.slice a l c) := cell_later hb2 (by go_simp)
  have r0 : w2.cell? ⟨w.heap.size + 1, 0, none⟩ = some (.int .i64 0) := cell_later hb2 (by go_simp)
  have r1 : w2.cell? ⟨w.heap.size + 1, 1, none⟩ = some (.slice none 0 0) := cell_later hb2 (by go_simp)
  have rf : ∀ q, w2.frozen? ⟨w.heap.size + 1, q, none⟩ = false := fun q => ((bcell hb2).2 _ q (by simp)).trans (by go_simp)
  have bel2 : Below w.heap.size w w2 := by repeat (first | (with_reducible exact Below.refl _ _) | (with_reducible refine Below.drew ?_) | (with_reducible refine Below.alloc ?_ ?hh _; case hh => first | (simp; done) | (simp; omega) | omega) | (with_reducible refine Below.setCell ?_ ?hh _; case hh => first | (simp; done) | (simp; omega) | omega) | refine bstep (by assumption) (by first | (simp; done) | (simp; omega) | omega) ?_)
  clear hb2 hr
  cases hk : okBag W cs with
  | false =>
    have HK : Hid (okBag W cs = false) := hk
    clear hk
    go_wp2
    refine bodyPost_ret (v := .agg #[.int .i64 W, .slice none 0 0]) (by simp [results, Try.results41, go_sem, *]) rfl ⟨by rw [HK.out]; rfl, ?_⟩
    repeat (first | (with_reducible exact bel2) | (with_reducible refine Below.setCell ?_ ?hh _; case hh => (simp; try omega)))
  | true =>
    have HK : Hid (okBag W cs = true) := hk
    clear hk
    go_wp2
    refine bodyPost_ret (v := .agg #[.int .i64 W, .slice a l c]) (by simp [results, Try.results41, go_sem, *]) rfl ⟨by rw [HK.out]; rfl, ?_⟩
    repeat (first | (with_reducible exact bel2) | (with_reducible refine Below.setCell ?_ ?hh _; case hh => (simp; try omega)))
end Go.Proofs.Ytdkbhoichmcodaa
/- Own text. A bag of rows: the contract of spec.BagOf. -/
namespace Go.Proofs.Ytdkbhoichmcodaa
open Go.RowKit Go.Deep Go.ChangeShapes Go.WideShapes
set_option linter.unusedVariables false
theorem bofC_yes {W : Int} {rs : List (List V3)} (h : okBag W (sumC [] (onesC rs) 1) = true) : bofC W rs = sumC [] (onesC rs) 1 := if_pos h
theorem bofC_no {W : Int} {rs : List (List V3)} (h : okBag W (sumC [] (onesC rs) 1) = false) : bofC W rs = [] := by simp [bofC, h]
theorem ones_n {rs : List (List V3)} {x : C2} (h : x ∈ onesC rs) : x.n = 1 := by obtain ⟨r, _, rfl⟩ := List.mem_map.1 h; rfl
set_option maxHeartbeats 4000000 in
set_option maxRecDepth 100000 in
theorem specBof_any (W : Int) (v : Value) (rs : List (List V3)) (F : List Nat) (w : World) (hr : RssF w v rs F) (hw : RsWf2 rs) (hn : wtss rs ≤ 1048576) (hcw : CsWf (sumC [] (onesC rs) 1)) :
    Calls Try.prog 11 #[.int .i64 W, v] w fun e w' => (∃ u us G, e = .returned (.agg #[.int .i64 W, u]) ∧ BagOwn w' w.heap.size u (bofC W rs) us G) ∧ Below w.heap.size w w' := by
  have hlen : rs.length ≤ 1048576 := by unfold wtss at hn; omega
  obtain ⟨a, c, hv, hcl, hcm⟩ : ∃ a c, v = .slice a rs.length c ∧ rs.length ≤ c ∧ c ≤ maxLen := by
    obtain ⟨a, c, G, e, h1, h2, _⟩ := hr
    exact ⟨a, c, e, h1, h2⟩
  unfold maxLen at hcm
  subst hv
  go_enter Try.func11, Try.ntmps11
  go_wp2_with fail
  go_loopw [6] (fun i wr => ∃ (k : Nat) (y : Value) (us : List Value) (G : List (List Nat)), k ≤ rs.length ∧ i = .int .i64 k ∧ wr.cell? ⟨w.heap.size + 1, 0, none⟩ = some (.int .i64 W) ∧ wr.cell? ⟨w.heap.size + 1, 1, none⟩ = some y ∧ (∀ q, wr.frozen? ⟨w.heap.size + 1, q, none⟩ = false) ∧ wr.cell? ⟨w.heap.size, 0, none⟩ = some (.int .i64 0) ∧ wr.cell? ⟨w.heap.size, 1, none⟩ = some (.slice none 0 0) ∧ (∀ q, wr.frozen? ⟨w.heap.size, q, none⟩ = false) ∧ BagOwn wr (w.heap.size + 1 + 1) y (sumC [] (onesC (rs.take k)) 1) us G ∧ Below w.heap.size w wr ∧ w.heap.size + 1 + 1 ≤ wr.heap.size) (fun i _ => rs.length - (intOf i).toNat)
  case atStart =>
    exact ⟨0, .slice none 0 0, [], [], Nat.zero_le _, rfl, by go_simp, by go_simp, fun q => by go_simp, by go_simp, by go_simp, fun q => by go_simp, BagOwn.nil _ _, by repeat (first | (with_reducible exact Below.refl _ _) | (with_reducible refine Below.drew ?_) | (with_reducible refine Below.alloc ?_ ?hh _; case hh => first | (simp; done) | (simp; omega) | omega) | (with_reducible refine Below.setCell ?_ ?hh _; case hh => first | (simp; done) | (simp; omega) | omega) | refine bstep (by assumption) (by first | (simp; done) | (simp; omega) | omega) ?_), by simp⟩
  case round =>
    obtain ⟨k, y, us, G, hk, rfl, p0, p1, pf, r0, r1, rf, hB, hb, hzb⟩ := hrel
    by_cases hlt : k < rs.length
    · obtain ⟨b, o, c', x, a0, n0, e0, hx, c0, hbr, g0, hR, hg0⟩ := hr.nth (b := w.heap.size) hr.lt hb hlt
      obtain ⟨rfl, rfl⟩ : a = some ⟨b, o, none⟩ ∧ c = c' := by simpa using e0
      have hbw : b < w.heap.size := by
        obtain ⟨a1, c1, G1, e1, _, _, _, _, _, hh⟩ := hr
        obtain ⟨b1, o1, e2, hl1, _⟩ := hh (by rintro rfl; simp at hlt)
        obtain ⟨rfl, _⟩ : some (⟨b, o, none⟩ : Addr) = a1 ∧ c = c1 := by simpa using e1
        obtain ⟨rfl, rfl⟩ : b = b1 ∧ o = o1 := by simpa using e2
        exact hl1
      obtain ⟨ay, cy, rfl⟩ := hB.shape
      have hxn : x.length ≤ 1048576 := by have := wt_memR (List.mem_of_getElem? hx); unfold wt at this; unfold wtss at hn; omega
      have hkI : (k : Int) < rs.length := by omega
      have HT : Hid (sumC [] (onesC (rs.take (k + 1))) 1 = putC (sumC [] (onesC (rs.take k)) 1) x 1) := by show _ = _; rw [ones_snoc hx, sumC_snoc]; rfl
      obtain ⟨hsl, hsb⟩ := sumC_bound (cs := []) (n := 1) (M := 0) (m := 1) (ds := onesC (rs.take k)) (fun c h => by cases h) (by omega) (by omega) (fun y hy => by rw [ones_n hy]; omega)
      obtain ⟨hsA, hsz, _⟩ := sumC_all (n := 1) (cs := []) (ds := onesC (rs.take k)) (by simp [Asc]) (fun c h => by cases h)
      have htl : (onesC (rs.take k)).length ≤ 1048576 := by rw [ones_len]; simp; omega
      have hsb2 : ∀ c ∈ sumC [] (onesC (rs.take k)) 1, -4000000000000000000 ≤ c.n ∧ c.n ≤ 4000000000000000000 := fun c h => by have := hsb c h; omega
      have hsl2 : (sumC [] (onesC (rs.take k)) 1).length ≤ 2097152 := by simp only [List.length_nil] at hsl; omega
      have hol := fun q hq => (ownsRow_lt hB.own q hq).1
      clear hsb hsl hsz htl
      generalize sumC [] (onesC (rs.take k)) 1 = ct at *
      clear hx e0
      go_wp2_with fail
      -- region
      refine startE 6 (fun w' => w'.cell? ⟨w.heap.size + 1, 0, none⟩ = some (.int .i64 W) ∧ w'.cell? ⟨w.heap.size + 1, 1, none⟩ = some (.slice ay ct.length cy) ∧ w'.cell? ⟨b, o + k, none⟩ = some (.slice a0 x.length n0)) (by kernel_rfl) ?_ (fun hHeld => ?_)
      · (try dsimp only)
        exact ⟨p0, p1, c0⟩
      refine takeE (i := 0) (d := 15) (v := ?_) rfl rfl (by kernel_rfl) (by kernel_rfl) (by kernel_rfl) (by kernel_rfl) (fun _ _ _ h => h) (by rfl) (by assumption) ?_ ?_
      rotate_left
      · intro w' hSw; (try dsimp only at hSw); go_simp; try exact rfl
      try simp only [List.setIfInBounds_toArray, List.set_cons_zero, List.set_cons_succ]
      refine takeE (i := 1) (d := 16) (v := ?_) rfl rfl (by kernel_rfl) (by kernel_rfl) (by kernel_rfl) (by kernel_rfl) (fun _ _ _ h => h) (by rfl) (by assumption) ?_ ?_
      rotate_left
      · intro w' hSw; (try dsimp only at hSw); go_simp; try exact rfl
      try simp only [List.setIfInBounds_toArray, List.set_cons_zero, List.set_cons_succ]
      refine takeE (i := 2) (d := 17) (v := ?_) rfl rfl (by kernel_rfl) (by kernel_rfl) (by kernel_rfl) (by kernel_rfl) (fun _ _ _ h => h) (by rfl) (by assumption) ?_ ?_
      rotate_left
      · intro w' hSw; (try dsimp only at hSw); go_simp; try exact rfl
      try simp only [List.setIfInBounds_toArray, List.set_cons_zero, List.set_cons_succ]
      refine takeE (i := 3) (d := 18) (v := ?_) rfl rfl (by kernel_rfl) (by kernel_rfl) (by kernel_rfl) (by kernel_rfl) (fun _ _ _ h => h) (by rfl) (by assumption) ?_ ?_
      rotate_left
      · intro w' hSw; (try dsimp only at hSw); go_simp; try exact rfl
      try simp only [List.setIfInBounds_toArray, List.set_cons_zero, List.set_cons_succ]
      refine takeE (i := 4) (d := 19) (v := ?_) rfl rfl (by kernel_rfl) (by kernel_rfl) (by kernel_rfl) (by kernel_rfl) (fun _ _ _ h => h) (by rfl) (by assumption) ?_ ?_
      rotate_left
      · intro w' hSw; (try dsimp only at hSw); go_simp; try exact rfl
      try simp only [List.setIfInBounds_toArray, List.set_cons_zero, List.set_cons_succ]
      refine oneE (i := 5) (by kernel_rfl) rfl (fun K hK => ?_)
      go_simp
      go_at_call 40
      refine Calls.mono (l02Put_any W 1 (.slice ay ct.length cy) (.slice a0 x.length n0) ct us G x g0 (w.heap.size + 1 + 1) _ (hB.below (by repeat (first | (with_reducible exact Below.refl _ _) | (with_reducible refine Below.drew ?_) | (with_reducible refine Below.alloc ?_ ?hh _; case hh => first | (simp; done) | (simp; omega) | omega) | (with_reducible refine Below.setCell ?_ ?hh _; case hh => first | (simp; done) | (simp; omega) | omega) | refine bstep (by assumption) (by first | (simp; done) | (simp; omega) | omega) ?_))) (hR.below (by repeat (first | (with_reducible exact Below.refl _ _) | (with_reducible refine Below.drew ?_) | (with_reducible refine Below.alloc ?_ ?hh _; case hh => first | (simp; done) | (simp; omega) | omega) | (with_reducible refine Below.setCell ?_ ?hh _; case hh => first | (simp; done) | (simp; omega) | omega) | refine bstep (by assumption) (by first | (simp; done) | (simp; omega) | omega) ?_))) hsA (by simp; omega) hsl2 hxn (by omega) (by omega) hsb2 _ rfl) ?_
      rintro e w5 ⟨v5, us5, G5, rfl, hB5, hv5, hG5, hb5, hgr5⟩
      obtain ⟨a5, c5, rfl⟩ := hB5.shape
      have hz5 := hb5.size
      simp at hz5
      have kB : ∀ q, q < w.heap.size + 1 + 1 → w5.heap[q]? = wr.heap[q]? := fun q hq => hb5.block q hq
      have p05 := (cell_blk (kB (w.heap.size + 1) (by omega))).trans p0
      have p15 := (cell_blk (kB (w.heap.size + 1) (by omega))).trans p1
      have pf5 : ∀ q, w5.frozen? ⟨w.heap.size + 1, q, none⟩ = false := fun q => (frozen_blk (kB (w.heap.size + 1) (by omega))).trans (pf q)
      have r05 := (cell_blk (kB w.heap.size (by omega))).trans r0
      have r15 := (cell_blk (kB w.heap.size (by omega))).trans r1
      have rf5 : ∀ q, w5.frozen? ⟨w.heap.size, q, none⟩ = false := fun q => (frozen_blk (kB w.heap.size (by omega))).trans (rf q)
      have c05 := (cell_blk (kB b (by omega))).trans c0
      have bel5 : Below w.heap.size w w5 := hb.trans ((show Below (w.heap.size + 1 + 1) wr w5 from ⟨hb5.os, hb5.tape, hb5.output, hb5.size, hb5.block⟩).mono (by omega))
      try go_wp2_with fail
      refine hK.out _ _ ?_ (fun hHeld5 => ?_)
      · intro _
        (try dsimp only)
        exact ⟨p05, p15, c05⟩
      clear hK
      replace hHeld5 := hHeld5 (by decide)
      try simp only [List.setIfInBounds_toArray, List.set_cons_zero, List.set_cons_succ]
      refine oneE (i := 6) (by kernel_rfl) rfl (fun K hK => ?_)
      go_simp
      refine hK.out _ _ ?_ (fun hHeld6 => ?_)
      · exact fun h => absurd rfl h
      clear hK hHeld6
      try simp only [List.setIfInBounds_toArray, List.set_cons_zero, List.set_cons_succ]
      refine doneE (by kernel_rfl) ?_ _
      -- end of the region
      have hol5 := fun q hq => (ownsRow_lt hB5.own q hq).1
      have hGl5 := hB5.free.2.1
      have hBs : BagOwn ((w5.setCell ⟨w.heap.size + 1, 0, none⟩ (.int .i64 W)).setCell ⟨w.heap.size + 1, 1, none⟩ (.slice a5 (putC ct x 1).length c5)) (w.heap.size + 1 + 1) (.slice a5 (putC ct x 1).length c5) (sumC [] (onesC (rs.take (k + 1))) 1) us5 G5 := by
        rw [HT.out]
        exact hB5.keepO (by simp) (fun b hb => (Below.heap_setCell _ _ _ _ (by rintro rfl; have := hol5 _ hb; simp at this; omega)).trans (Below.heap_setCell _ _ _ _ (by rintro rfl; have := hol5 _ hb; simp at this; omega))) (fun b hb => (Below.heap_setCell _ _ _ _ (by rintro rfl; have := hGl5 _ hb; simp at this; omega)).trans (Below.heap_setCell _ _ _ _ (by rintro rfl; have := hGl5 _ hb; simp at this; omega)))
      have P0 : ((w5.setCell ⟨w.heap.size + 1, 0, none⟩ (.int .i64 W)).setCell ⟨w.heap.size + 1, 1, none⟩ (.slice a5 (putC ct x 1).length c5)).cell? ⟨w.heap.size + 1, 0, none⟩ = some (.int .i64 W) := (World.cell?_setCell_other _ _ _ _ (by simp)).trans (World.cell?_setCell_same _ _ _ p05)
      have P1 : ((w5.setCell ⟨w.heap.size + 1, 0, none⟩ (.int .i64 W)).setCell ⟨w.heap.size + 1, 1, none⟩ (.slice a5 (putC ct x 1).length c5)).cell? ⟨w.heap.size + 1, 1, none⟩ = some (.slice a5 (putC ct x 1).length c5) := World.cell?_setCell_same _ _ _ ((World.cell?_setCell_other _ _ _ _ (by simp)).trans p15)
      have PF : ∀ q, ((w5.setCell ⟨w.heap.size + 1, 0, none⟩ (.int .i64 W)).setCell ⟨w.heap.size + 1, 1, none⟩ (.slice a5 (putC ct x 1).length c5)).frozen? ⟨w.heap.size + 1, q, none⟩ = false := fun q => by simpa using pf5 q
      have R0 : ((w5.setCell ⟨w.heap.size + 1, 0, none⟩ (.int .i64 W)).setCell ⟨w.heap.size + 1, 1, none⟩ (.slice a5 (putC ct x 1).length c5)).cell? ⟨w.heap.size, 0, none⟩ = some (.int .i64 0) := ((World.cell?_setCell_other _ _ _ _ (by simp; try omega)).trans (World.cell?_setCell_other _ _ _ _ (by simp; try omega))).trans r05
      have R1 : ((w5.setCell ⟨w.heap.size + 1, 0, none⟩ (.int .i64 W)).setCell ⟨w.heap.size + 1, 1, none⟩ (.slice a5 (putC ct x 1).length c5)).cell? ⟨w.heap.size, 1, none⟩ = some (.slice none 0 0) := ((World.cell?_setCell_other _ _ _ _ (by simp; try omega)).trans (World.cell?_setCell_other _ _ _ _ (by simp; try omega))).trans r15
      have RF : ∀ q, ((w5.setCell ⟨w.heap.size + 1, 0, none⟩ (.int .i64 W)).setCell ⟨w.heap.size + 1, 1, none⟩ (.slice a5 (putC ct x 1).length c5)).frozen? ⟨w.heap.size, q, none⟩ = false := fun q => by simpa using rf5 q
      have belS : Below w.heap.size w ((w5.setCell ⟨w.heap.size + 1, 0, none⟩ (.int .i64 W)).setCell ⟨w.heap.size + 1, 1, none⟩ (.slice a5 (putC ct x 1).length c5)) := (bel5.setCell (by simp; try omega) _).setCell (by simp; try omega) _
      have hzS : w.heap.size + 1 + 1 ≤ ((w5.setCell ⟨w.heap.size + 1, 0, none⟩ (.int .i64 W)).setCell ⟨w.heap.size + 1, 1, none⟩ (.slice a5 (putC ct x 1).length c5)).heap.size := by simp; omega
      clear hB hB5 hgr5 p05 p15 r05 r15 rf5 pf5 c05 hsA hsb2 HT hol5 hGl5
      go_wp2
      exact ⟨⟨k + 1, _, _, _, hlt, by simp, P0, P1, PF, R0, R1, RF, hBs, belS, hzS⟩, by simp [intOf]; omega⟩
    · obtain rfl : k = rs.length := by omega
      rw [List.take_length] at hB
      obtain ⟨ay, cy, rfl⟩ := hB.shape
      go_wp2_with fail
      obtain ⟨F9, hF9, _⟩ := hB.rowsF
      refine Calls.mono (l02Right_any W _ _ wr hcw hF9.is) ?_
      cases hk : okBag W (sumC [] (onesC rs) 1) with
      | false =>
        rintro e w6 ⟨rfl, hb6⟩
        have HK : Hid (bofC W rs = []) := bofC_no hk
        have r06 := (cell_blk (hb6.block w.heap.size (by omega))).trans r0
        have r16 := (cell_blk (hb6.block w.heap.size (by omega))).trans r1
        have rf6 : ∀ q, w6.frozen? ⟨w.heap.size, q, none⟩ = false := fun q => (frozen_blk (hb6.block w.heap.size (by omega))).trans (rf q)
        have bel6 : Below w.heap.size w w6 := hb.trans (hb6.mono (by omega))
        clear hb6 hk
        simp only [rightV, Bool.false_eq_true, if_false]
        go_wp2
        refine bodyPost_ret (v := .agg #[.int .i64 W, .slice none 0 0]) (by simp [results, Try.results11, go_sem, *]) rfl ⟨⟨_, [], [], rfl, by rw [HK.out]; exact BagOwn.nil _ _⟩, ?_⟩
        repeat (first | (with_reducible exact bel6) | (with_reducible refine Below.setCell ?_ ?hh _; case hh => (simp; try omega)))
      | true =>
        rintro e w6 ⟨rfl, hb6⟩
        have HK : Hid (bofC W rs = sumC [] (onesC rs) 1) := bofC_yes hk
        have r06 := (cell_blk (hb6.block w.heap.size (by omega))).trans r0
        have r16 := (cell_blk (hb6.block w.heap.size (by omega))).trans r1
        have rf6 : ∀ q, w6.frozen? ⟨w.heap.size, q, none⟩ = false := fun q => (frozen_blk (hb6.block w.heap.size (by omega))).trans (rf q)
        have bel6 : Below w.heap.size w w6 := hb.trans (hb6.mono (by omega))
        have hB6 := hB.below hb6
        clear hb6 hk hB
        simp only [rightV, if_true]
        go_wp2
        refine bodyPost_ret (v := .agg #[.int .i64 W, .slice ay (sumC [] (onesC rs) 1).length cy]) (by simp [results, Try.results11, go_sem, *]) rfl ⟨⟨_, us, G, rfl, by rw [HK.out]; exact (hB6.keep (by simp) fun b hb _ => by repeat rw [Below.heap_setCell _ _ _ _ (by simp; omega)]).weak (by omega)⟩, ?_⟩
        repeat (first | (with_reducible exact bel6) | (with_reducible refine Below.setCell ?_ ?hh _; case hh => (simp; try omega)))
end Go.Proofs.Ytdkbhoichmcodaa
/- Own text. The weight of bags that are put together. -/
namespace Go.Proofs.Ytdkbhoichmcodaa
open Go.RowKit
set_option linter.unusedVariables false
theorem wtb_app (a b : List C2) : wtb (a ++ b) = wtb a + wtb b := by simp [wtb, wtcs]; omega
theorem wtb_one (x : C2) (b : List C2) : wtb (x :: b) = 1 + wt x.r + wtb b := by simp [wtb, wtcs]; omega
theorem wtb_cut (cs : List C2) (k : Nat) : wtb (cs.take k) + wtb (cs.drop k) = wtb cs := by rw [← wtb_app, List.take_append_drop]
theorem wtb_putC (cs : List C2) (row : List V3) (n : Int) : wtb (putC cs row n) ≤ wtb cs + (1 + wt row) := by
  have h := wtb_cut cs (ahead cs row)
  have ins : wtb (cs.take (ahead cs row) ++ (⟨row, n⟩ : C2) :: cs.drop (ahead cs row)) = wtb cs + (1 + wt row) := by rw [wtb_app, wtb_one]; simp only []; omega
  unfold putC
  split
  · rename_i x hx
    have hd : cs.drop (ahead cs row) = x :: cs.drop (ahead cs row + 1) := by
      obtain ⟨hk, rfl⟩ := List.getElem?_eq_some_iff.1 hx
      exact List.drop_eq_getElem_cons hk
    have hlt : ahead cs row < cs.length := (List.getElem?_eq_some_iff.1 hx).1
    split
    · split
      · rw [List.set_eq_take_append_cons_drop, if_pos hlt, wtb_app, wtb_one]
        rw [hd, wtb_one] at h
        simp only []
        omega
      · rw [wtb_app]
        rw [hd, wtb_one] at h
        omega
    · split
      · omega
      · omega
  · split
    · omega
    · omega
theorem wtb_sumC (n : Int) : ∀ (ds cs : List C2), wtb (sumC cs ds n) ≤ wtb cs + wtb ds
  | [], cs => by simp [sumC]
  | x :: ds, cs => by
    have h1 := wtb_sumC n ds (putC cs x.r (n * x.n))
    have h2 := wtb_putC cs x.r (n * x.n)
    have h3 := wtb_one x ds
    show wtb (sumC (putC cs x.r (n * x.n)) ds n) ≤ _
    omega
end Go.Proofs.Ytdkbhoichmcodaa
/- Own text. Lists of rows that came in; what a bag of rows weighs. -/
namespace Go.Proofs.Ytdkbhoichmcodaa
open Go.RowKit Go.Deep Go.ChangeShapes Go.WideShapes
set_option linter.unusedVariables false
theorem wtb_ones (rs : List (List V3)) : wtb (onesC rs) = wtss rs := by simp [wtb, wtcs, onesC, wtss, wtrs, List.map_map, Function.comp_def]
theorem wtb_bofC (W : Int) (rs : List (List V3)) : wtb (bofC W rs) ≤ wtss rs := by
  unfold bofC
  split
  · have := wtb_sumC 1 (onesC rs) []
    rw [wtb_ones] at this
    have e : wtb ([] : List C2) = 0 := rfl
    omega
  · exact Nat.zero_le _
theorem ones_wf {rs : List (List V3)} (hw : RsWf2 rs) (hn : rs.length ≤ 1048576) : CsWf (sumC [] (onesC rs) 1) := fun c hm => by
  obtain ⟨s1, s2, s3⟩ := sumC_all (n := 1) (ds := onesC rs) (cs := []) List.Pairwise.nil (fun c hc => by cases hc)
  obtain ⟨_, hb⟩ := sumC_bound (cs := []) (n := 1) (M := 0) (m := 1) (ds := onesC rs) (fun c h => by cases h) (by omega) (by omega) (fun y hy => by obtain ⟨r, _, rfl⟩ := List.mem_map.1 hy; dsimp only; omega)
  have hl : (onesC rs).length = rs.length := by simp [onesC]
  have hbc := hb c hm
  rw [hl] at hbc
  refine ⟨?_, wf_small (by omega)⟩
  by_cases h : ∃ x ∈ onesC rs, x.r = c.r
  · obtain ⟨x, hx, e⟩ := h
    obtain ⟨r, hr, rfl⟩ := List.mem_map.1 hx
    rw [← e]; exact hw r hr
  · have h2 : cntC (sumC [] (onesC rs) 1) c.r = c.n := by
      rw [← totC_asc c.r s1]
      exact totC_mem (pw_to (fun _ _ h => lt_ne h) s1) hm
    have e0 : cntC ([] : List C2) c.r = 0 := cntC_none fun c hc => by cases hc
    rw [s3, totC_sum, e0, totC_none fun x hx e => h ⟨x, hx, e⟩] at h2
    have := s2 c hm
    omega
section
variable {H : Type} {enc : TypeId × Value → H} {P : Program} {w : World} {spare : Nat → Bool} {held : Bool}
/-- a slice of rows that came in. -/
theorem open_rss {t r e : TypeId} {F0 F1 F2 : Field} {fuel : Nat} {v : Value} {x : DataW H × List MemPlace} (hst : P.underlying t = some (.slice r)) (cr : P.cellsOf r = 1) (ht : P.underlying r = some (.slice e)) (he : P.underlying e = some (.struct #[F0, F1, F2]))
    (ce : P.cellsOf e = 3) (o0 : F0.offset = 0) (o1 : F1.offset = 1) (o2 : F2.offset = 2) (c0 : P.cellsOf F0.type = 1) (c1 : P.cellsOf F1.type = 1) (c2 : P.cellsOf F2.type = 1)
    (u0 : P.underlying F0.type = some (.int .i64)) (u1 : P.underlying F1.type = some (.int .i64)) (u2 : P.underlying F2.type = some .string)
    (h : DataW.trod enc P w 0 spare held fuel t [v] = some x) : ∃ rs, RssIs w v rs ∧ RsWf2 rs := by
  rcases open_slice hst h with ⟨h0, _⟩ | ⟨a, len, cap, m, n, D, Pl, hcs, hb, hl, hm, hmm, rfl, hx⟩
  · simp at h0; subst h0
    exact ⟨[], ⟨none, 0, rfl, by simp, by simp, fun h => absurd rfl h⟩, by simp [RsWf2]⟩
  simp at hcs; subst hcs
  have hlm : len ≤ m := by rw [hmm]; split <;> omega
  have each : ∀ i, i < len → ∃ q : Value × List V3, w.cell? (a.add i) = some q.1 ∧ RowIs w q.1 q.2 ∧ VsWf q.2 := by
    intro i hi
    obtain ⟨cs', h1, h2⟩ := hx i (by omega)
    rw [cr] at h1
    obtain ⟨_, hlen, hcell⟩ := World.cells?_some h1
    match cs', hlen with
    | [z0], _ =>
      have e0 := hcell 0 (by omega)
      rw [add_add] at e0
      obtain ⟨vs, hr0, hw0⟩ := open_row ht he ce o0 o1 o2 c0 c1 c2 u0 u1 u2 h2
      exact ⟨(z0, vs), by simpa using e0, hr0, hw0⟩
  have : Inhabited (Value × List V3) := ⟨⟨.nilFunc, []⟩⟩
  obtain ⟨q, hq⟩ := choose_lt each
  refine ⟨(List.range len).map fun i => (q i).2, ⟨some a, cap, by simp, by simpa using hl, hm, fun hne => ?_⟩, ?_⟩
  · have hpos : 0 < len := by
      rcases Nat.eq_zero_or_pos len with h0 | h0
      · subst h0; simp at hne
      · exact h0
    have hs : a.spot = none := by have := World.cell?_spot (hq 0 hpos).1; simpa [Addr.add] using this
    obtain ⟨b, o, sp⟩ := a
    simp at hs; subst hs
    refine ⟨b, o, rfl, ?_, fun i x hx => ?_⟩
    · have := World.block_lt_of_cell? _ _ (hq 0 hpos).1
      simpa [Addr.add] using this
    · have hi : i < len := by
        obtain ⟨h1, _⟩ := List.getElem?_eq_some_iff.1 hx
        simpa using h1
      have ex : x = (q i).2 := by simp [hi] at hx; exact hx.symm
      subst ex
      obtain ⟨h0, h1, _⟩ := hq i hi
      rw [add_plain] at h0
      exact ⟨_, h0, h1⟩
  · intro y hy
    obtain ⟨i, hi, rfl⟩ := List.mem_map.1 hy
    exact (hq i (List.mem_range.1 hi)).2.2
end
end Go.Proofs.Ytdkbhoichmcodaa
/- Own text. A list of rows made anew, all of it in memory of the call's own. -/
namespace Go.Proofs.Ytdkbhoichmcodaa
open Go.RowKit Go.Deep
set_option linter.unusedVariables false
theorem Try.infoRow : (Try.prog.info? 64).map (fun i => (i.zero, i.size, i.bytes)) = some (some (.slice none 0 0), 1, 24) := by kernel_rfl
/-- rows of the call's own: block B0 has the rows' heads, g i is row i's own block; the first k are laid. -/
structure HalfR (w : World) (B0 : Nat) (rs : List (List V3)) (g : Nat → Nat) (k : Nat) : Prop where
  own : ∃ f, w.rowIs B0 64 rs.length f ∧ ∀ i x, i < k → rs[i]? = some x → f i = .slice (some ⟨g i, 0, none⟩) x.length x.length
  row : ∀ i x, i < k → rs[i]? = some x → w.rowIs (g i) 133 (x.length * 3) (cf x)
  above : ∀ i, i < k → B0 < g i
  up : ∀ i j, i < j → j < k → g i < g j
theorem HalfR.cells {w : World} {B : Nat} {rs : List (List V3)} {g : Nat → Nat} {k : Nat} (h : HalfR w B rs g k) (hk : k < rs.length) :
    (∃ u, w.cell? ⟨B, k, none⟩ = some u) ∧ (∀ i, w.frozen? ⟨B, i, none⟩ = false) ∧ B < w.heap.size := by
  obtain ⟨f, h, _⟩ := h.own
  exact ⟨⟨_, h.cell (by omega)⟩, fun i => h.frozen i, h.lt⟩
theorem HalfR.lt {w : World} {B : Nat} {rs : List (List V3)} {g : Nat → Nat} {k : Nat} (h : HalfR w B rs g k) (hk : k ≤ rs.length) {i : Nat} (hi : i < k) : g i < w.heap.size := (h.row i rs[i] hi (by simp)).lt
theorem HalfR.below {w w' : World} {B : Nat} {rs : List (List V3)} {g : Nat → Nat} {k : Nat} (h : HalfR w B rs g k) (hk : k ≤ rs.length) (hb : Below w.heap.size w w') : HalfR w' B rs g k := by
  obtain ⟨⟨f, hf, he⟩, h1, h2, h3⟩ := h
  exact ⟨⟨f, hf.of_block (hb.block _ hf.lt), he⟩, fun i x hi hx => (h1 i x hi hx).of_block (hb.block _ (h1 i x hi hx).lt), h2, h3⟩
theorem HalfR.step {w : World} {B D : Nat} {rs : List (List V3)} {g : Nat → Nat} {k : Nat} {x : List V3} (h : HalfR w B rs g k) (hx : rs[k]? = some x) (hD : w.rowIs D 133 (x.length * 3) (cf x)) (hB : B < D) (hup : ∀ i, i < k → g i < D) :
    HalfR (w.setCell ⟨B, k, none⟩ (.slice (some ⟨D, 0, none⟩) x.length x.length)) B rs (fun i => if i = k then D else g i) (k + 1) := by
  obtain ⟨⟨f, hf, he⟩, h1, h2, h3⟩ := h
  refine ⟨⟨_, hf.set _ _, fun i y hi hy => ?_⟩, fun i y hi hy => ?_, fun i hi => ?_, fun i j hij hj => ?_⟩
  · by_cases e : i = k
    · subst e
      obtain rfl : y = x := by rw [hx] at hy; exact (Option.some.inj hy).symm
      simp
    · simp only [if_neg e]
      exact he i y (by omega) hy
  · by_cases e : i = k
    · subst e
      obtain rfl : y = x := by rw [hx] at hy; exact (Option.some.inj hy).symm
      simp only [if_true]
      exact hD.setOther (by show D ≠ B; omega) _
    · simp only [if_neg e]
      have := h2 i (by omega)
      exact (h1 i y (by omega) hy).setOther (by show g i ≠ B; omega) _
  · by_cases e : i = k
    · simp only [if_pos e]; exact hB
    · simp only [if_neg e]; exact h2 i (by omega)
  · by_cases e : j = k
    · have e' : i ≠ k := by omega
      simp only [if_pos e, if_neg e']; exact hup i (by omega)
    · have e' : i ≠ k := by omega
      simp only [if_neg e, if_neg e']; exact h3 i j hij (by omega)
theorem halfR_made (w : World) (z : Array Value) (rs : List (List V3)) (g : Nat → Nat) : HalfR (w.alloc (.cells (madeCells z rs.length) 64)) w.heap.size rs g 0 :=
  ⟨⟨fun i => (madeCells z rs.length)[i]?.getD undef, ⟨_, blk_alloc_new _ _, size_madeCells _ _, fun i hi => by
    have : i < (madeCells z rs.length).size := by rw [size_madeCells]; exact hi
    simp [this]⟩, fun i x hi => by omega⟩, fun i x hi => by omega, fun i hi => by omega, fun i j _ hj => by omega⟩
theorem HalfR.rssF {w : World} {B : Nat} {rs : List (List V3)} {g : Nat → Nat} (h : HalfR w B rs g rs.length) (hl : ∀ x ∈ rs, x.length ≤ maxLen) (hm : rs.length ≤ maxLen) : ∃ F, RssF w (.slice (some ⟨B, 0, none⟩) rs.length rs.length) rs F ∧ Own w B F := by
  obtain ⟨f, hf, he⟩ := h.own
  by_cases hne : rs = []
  · exact ⟨[], ⟨_, _, [], rfl, Nat.le_refl _, hm, (fun x => by cases x), by rw [hne]; rfl, fun _ => rfl, fun x => absurd hne x⟩, by simp [Own, Free]⟩
  let G : List (List Nat) := (List.range rs.length).map fun i => if rs.getD i [] = [] then [] else [g i]
  have hGl : G.length = rs.length := by simp [G]
  have hGi : ∀ i q, G[i]? = some q → i < rs.length ∧ q = if rs.getD i [] = [] then [] else [g i] := by
    intro i q hq
    have hi : i < rs.length := by have := (List.getElem?_eq_some_iff.1 hq).1; omega
    refine ⟨hi, ?_⟩
    simp [G, hi] at hq
    rw [← hq]
    simp [hi]
  have hmem : ∀ b ∈ G.flatten, ∃ i, i < rs.length ∧ b = g i := by
    intro b hb
    obtain ⟨q, hq, hbq⟩ := List.mem_flatten.1 hb
    obtain ⟨i, hi, rfl⟩ := List.mem_iff_getElem.1 hq
    obtain ⟨hi', e⟩ := hGi i G[i] (by simp)
    rw [e] at hbq
    split at hbq
    · cases hbq
    · exact ⟨i, hi', List.mem_singleton.1 hbq⟩
  refine ⟨B :: G.flatten, ⟨_, _, G, rfl, Nat.le_refl _, hm, (fun x => by cases x), hGl, fun x => absurd x hne, fun _ => ⟨B, 0, rfl, hf.lt, rfl, fun i x q hx hq => ?_⟩⟩, ?_, fun b hb => ?_, fun b hb o => ?_⟩
  · obtain ⟨hi, eq⟩ := hGi i q hq
    have e0 := he i x hi hx
    have ex : rs.getD i [] = x := by simp [List.getD, hx]
    rw [ex] at eq
    have hrow := h.row i x hi hx
    refine ⟨.slice (some ⟨g i, 0, none⟩) x.length x.length, by rw [Nat.zero_add, hf.cell (by omega), e0], ⟨_, _, rfl, Nat.le_refl _, hl x (List.mem_of_getElem? hx), (fun x => by cases x), fun e => by rw [eq, if_pos e], fun hn => ⟨g i, 0, rfl, hrow.lt, by rw [eq, if_neg hn], ?_⟩⟩⟩
    refine lies_cells.2 fun j hj => ?_
    rw [Nat.zero_add]
    exact hrow.cell hj
  · refine List.nodup_cons.2 ⟨fun hb => ?_, ?_⟩
    · obtain ⟨i, hi, e⟩ := hmem B hb
      have := h.above i hi
      omega
    · rw [List.Nodup, List.pairwise_flatten]
      constructor
      · intro q hq
        obtain ⟨i, hi, rfl⟩ := List.mem_iff_getElem.1 hq
        obtain ⟨hi', e⟩ := hGi i G[i] (by simp)
        rw [e]
        split <;> simp
      · rw [List.pairwise_iff_getElem]
        intro i j hi hj hij x hx y hy
        obtain ⟨hi', ei⟩ := hGi i G[i] (by simp)
        obtain ⟨hj', ej⟩ := hGi j G[j] (by simp)
        rw [ei] at hx
        rw [ej] at hy
        split at hx
        · cases hx
        · split at hy
          · cases hy
          · have := h.up i j hij hj'
            have e1 := List.mem_singleton.1 hx
            have e2 := List.mem_singleton.1 hy
            omega
  · rcases List.mem_cons.1 hb with rfl | hb
    · exact Nat.le_refl _
    · obtain ⟨i, hi, rfl⟩ := hmem b hb
      exact Nat.le_of_lt (h.above i hi)
  · rcases List.mem_cons.1 hb with rfl | hb
    · exact hf.frozen o
    · obtain ⟨i, hi, rfl⟩ := hmem b hb
      exact (h.row i rs[i] hi (by simp)).frozen o
set_option maxHeartbeats 2000000 in
set_option maxRecDepth 100000 in
theorem toValueSS_any (v : Value) (rs : List (List V3)) (w : World) (hr : RssIs w v rs) (hn : wtss rs ≤ 1048576) :
    Calls Try.prog 12 #[v] w fun e w' => (∃ g, e = .returned (.slice (some ⟨w.heap.size, 0, none⟩) rs.length rs.length) ∧ HalfR w' w.heap.size rs g rs.length) ∧ Below w.heap.size w w' := by
  obtain ⟨a, c, b, o, rfl, hl, hc, ha⟩ := hr.pick
  unfold maxLen at hc
  clear hr
  have hn1 : rs.length ≤ 1048576 := by unfold wtss at hn; omega
  have hmk := run_make_wide (P := Try.prog) 28 64 _ 1 24 Try.underlying28 Try.infoRow rs.length (by omega) (by omega)
  simp only [Nat.mul_one] at hmk
  go_enter Try.func12, Try.ntmps12
  go_wp2
  go_loopw [4] (fun i wr => ∃ (k : Nat) (g : Nat → Nat), k ≤ rs.length ∧ i = .int .i64 k ∧ Below w.heap.size w wr ∧ HalfR wr w.heap.size rs g k) (fun i _ => rs.length - (intOf i).toNat)
  case atStart => exact ⟨0, fun _ => 0, Nat.zero_le _, rfl, by go_grown, halfR_made _ _ _ _⟩
  case round =>
    obtain ⟨k, g, hk, rfl, hb, hH⟩ := hrel
    clear hmk
    by_cases hlt : k < rs.length
    · have hzb := hb.size
      obtain ⟨rfl, hblt, hL⟩ := ha k hlt
      obtain ⟨x, u, hx, c0, hR, hbr⟩ := hL.at hblt hb hlt
      have HX : Hid (rs[k]? = some x) := hx
      have hxn : x.length ≤ 1048576 := by have := wt_memR (List.mem_of_getElem? hx); unfold wt at this; unfold wtss at hn; omega
      have hBr := (hH.cells hlt).2.2
      clear ha hL hx
      go_wp2_with (go_at_call 42; refine (toValueS_any _ _ _ hR hxn).mono ?_; rintro e w1 ⟨rfl, hRD, hb1⟩; have hz1 := hb1.size; have hH1 := hH.below hk hb1; obtain ⟨⟨y0, g0⟩, gf, gs⟩ := hH1.cells hlt)
      refine ⟨⟨k + 1, _, hlt, by simp, by repeat (first | exact Below.refl _ _ | refine Below.drew ?_ | refine Below.alloc ?_ (by first | (simp; done) | (simp; omega) | omega) _ | refine Below.setCell ?_ (by first | (simp; done) | (simp; omega) | omega) _ | refine bstep (by assumption) (by first | (simp; done) | (simp; omega) | omega) ?_), hH1.step HX.out hRD (by omega) (fun i hi => hH.lt hk hi)⟩, by simp [intOf]; omega⟩
    · go_wp2
      go_returns
      obtain rfl : k = rs.length := by omega
      exact ⟨⟨g, rfl, hH⟩, hb⟩
/-- toValueSS, with the blocks of what it makes. -/
theorem toValueSS_F (v : Value) (rs : List (List V3)) (w : World) (hr : RssIs w v rs) (hn : wtss rs ≤ 1048576) :
    Calls Try.prog 12 #[v] w fun e w' => (∃ u F, e = .returned u ∧ RssF w' u rs F ∧ Own w' w.heap.size F) ∧ Below w.heap.size w w' :=
  (toValueSS_any v rs w hr hn).mono fun e w' ⟨⟨g, he, h⟩, hb⟩ => by
    obtain ⟨F, h1, h2⟩ := h.rssF (fun x hx => by have := wt_memR hx; unfold wt at this; unfold wtss at hn; unfold maxLen; omega) (by unfold wtss at hn; unfold maxLen; omega)
    exact ⟨⟨_, F, he, h1, h2⟩, hb⟩
end Go.Proofs.Ytdkbhoichmcodaa
/- Own text. A list of rows is marked: only its own blocks change. -/
namespace Go.Proofs.Ytdkbhoichmcodaa
open Go.RowKit Go.Deep
set_option linter.unusedVariables false
/-- the rows from the n-th on are as they were. -/
def RestF (w : World) (b o n : Nat) (rs : List (List V3)) (G : List (List Nat)) : Prop := ∀ i x g, n ≤ i → rs[i]? = some x → G[i]? = some g → ∃ u, w.cell? ⟨b, o + i, none⟩ = some u ∧ RowF w u x g
theorem RestF.step {w w2 : World} {b o n : Nat} {rs : List (List V3)} {G : List (List Nat)} {g : List Nat} (h : RestF w b o n rs G) (hnd : (b :: G.flatten).Nodup) (hb : b < w.heap.size) (hg : G[n]? = some g) (hc : Chg g w w2) : RestF w2 b o (n + 1) rs G := by
  intro i x g' hi hx hg'
  obtain ⟨u, h0, h1⟩ := h i x g' (by omega) hx hg'
  exact ⟨u, (cell_blk (hc.block b hb (head_out hnd hg))).trans h0, h1.keep hc.size fun c hcg => hc.block c (h1.lt c hcg) (disj_of hnd hg' hg (by omega) c hcg)⟩
theorem wtrs_take_le (rs : List (List V3)) (k : Nat) : wtrs (rs.take k) ≤ wtrs rs := by
  unfold wtrs
  conv => rhs; rw [← List.take_append_drop k rs]
  rw [List.map_append, List.sum_append]
  omega
set_option maxHeartbeats 2000000 in
set_option maxRecDepth 100000 in
theorem markValueSS_any (k : Nat) (v : Value) (rs : List (List V3)) (F : List Nat) (w : World) (hr : RssF w v rs F) (hnd : F.Nodup) (hf : Free w F) (h0 : 0 < k) (h1 : k + 3 * wtss rs ≤ 999999900) :
    Calls Try.prog 16 #[v, .int .i64 k] w fun e w' => (∃ n : Nat, e = .returned (.int .i64 ((n : Nat) : Int)) ∧ k ≤ n ∧ n ≤ k + 3 * wtss rs) ∧ Chg F w w' := by
  have hlt0 := hr.lt
  obtain ⟨a, c, G, rfl, hl, hc, hzz, hG, hF0, hh⟩ := hr
  unfold maxLen at hc
  go_enter Try.func16, Try.ntmps16
  go_wp2
  go_loopw [1, 5] (fun kk i wr => ∃ n t : Nat, n ≤ rs.length ∧ i = .int .i64 n ∧ kk = .int .i64 ((t : Nat) : Int) ∧ k ≤ t ∧ t ≤ k + 3 * wtrs (rs.take n) ∧ (∀ b o, a = some ⟨b, o, none⟩ → F = b :: G.flatten → RestF wr b o n rs G) ∧ Chg F w wr) (fun _ i _ => rs.length - (intOf i).toNat)
  case atStart =>
    refine ⟨0, k, Nat.zero_le _, rfl, rfl, Nat.le_refl _, by omega, fun b o e eF => ?_, Chg.refl _ _⟩
    intro i x g _ hx hg
    have hne : rs ≠ [] := by rintro rfl; simp at hx
    obtain ⟨b', o', e', _, _, hL⟩ := hh hne
    rw [e] at e'
    obtain ⟨rfl, rfl⟩ : b = b' ∧ o = o' := by simpa using e'
    exact hL i x g hx hg
  case round =>
    obtain ⟨n, t, hn, rfl, rfl, hkt, htk, hH, hch⟩ := hrel
    have hle := wtrs_take_le rs n
    by_cases hlt : n < rs.length
    · obtain ⟨b, o, rfl, hblt, rfl, _⟩ := hh (by rintro rfl; simp at hlt)
      have hzb := hch.size
      have hbr : b < wr.heap.size := by omega
      have hlt' : n < G.length := by omega
      obtain ⟨x, hx⟩ : ∃ x, rs[n]? = some x := ⟨rs[n], by simp [hlt]⟩
      obtain ⟨g, hg⟩ : ∃ g, G[n]? = some g := ⟨G[n], by simp [hlt']⟩
      have hRest := hH b o rfl rfl
      obtain ⟨u, c0, hR⟩ := hRest n x g (Nat.le_refl _) hx hg
      have hgF : ∀ y ∈ g, y ∈ b :: G.flatten := fun y hy => List.mem_cons_of_mem _ (List.mem_flatten.2 ⟨g, List.mem_of_getElem? hg, hy⟩)
      have hgf : Free wr g := fun y hy => hch.free hf y (hgF y hy)
      have hs := wtrs_take hx
      have hle1 := wtrs_take_le rs (n + 1)
      have hwx : x.length ≤ wt x := by unfold wt; omega
      have HS : Hid (t + 3 * x.length ≤ k + 3 * wtrs (rs.take (n + 1))) := by unfold Hid; omega
      have hb1 : t + 3 * x.length ≤ 999999990 := by unfold wtss at h1; omega
      have hto : 0 < t := by omega
      have hst := fun w2 hc => RestF.step (w2 := w2) hRest hnd hbr hg hc
      obtain ⟨au, lu, cu, rfl⟩ := hR.is.shape
      clear hs hh hH hRest hf hx hle hle1
      go_wp2_with fail
      refine Calls.mono (markValueS_any t _ x g wr hR hgf hto hb1) ?_
      rintro e w2 ⟨rfl, hR2, hc2⟩
      have hS2 := hst w2 hc2
      have hch2 : Chg (b :: G.flatten) w w2 := hch.trans (hc2.wide hgF fun y hy _ => by have := hlt0 y hy; omega)
      clear hst hc2 hR2 hch hgf c0 hR
      go_wp2
      refine ⟨⟨n + 1, t + 3 * x.length, hlt, by simp, by simp, by omega, HS.out, fun b' o' e _ => ?_, hch2⟩, by simp [intOf]; omega⟩
      obtain ⟨rfl, rfl⟩ : b = b' ∧ o = o' := by simpa using e
      exact hS2
    · go_wp2
      go_returns
      exact ⟨⟨t, rfl, hkt, by unfold wtss; omega⟩, hch⟩
end Go.Proofs.Ytdkbhoichmcodaa
/- Own text. The walk: For every argument, whatever memory it lies in, the statement's function on BagOf returns true, and each argument reads afterwards as it read before; no condition. -/
namespace Go.Proofs.Ytdkbhoichmcodaa.fnExactBagOf
open Go.RowKit
set_option linter.unusedVariables false
set_option maxHeartbeats 4000000 in
set_option maxRecDepth 100000 in
theorem walk (W : Int) (hW : (Lit.int .i64 W).wf = true) (v : Value) (rs : List (List V3)) (hw : RsWf2 rs) (w : World) (hr : RssIs w v rs) :
    Calls Try.prog 3 #[.int .i64 W, v] w fun e w' => e = .returned (.bool true) ∧ Below w.heap.size w w' := by
  obtain ⟨a, l, c, rfl⟩ := hr.shape
  go_enter Try.func3, Try.ntmps3
  go_wp2_with fail
  refine Calls.mono (szValueSS_any (.slice a l c) rs 1048576 _ hr hw (by decide) (by decide)) ?_
  rintro e w1 ⟨⟨z1, rfl, l1, g1, s1⟩, hb1⟩
  by_cases hn1 : z1 < 0
  · go_wp2_with fail
    go_returns
    exact ⟨rfl, hb1⟩
  have hn : wtss rs ≤ 1048576 := by have := s1 (by omega); omega
  have hlen : rs.length ≤ 1048576 := by unfold wtss at hn; omega
  have hcw := ones_wf hw hlen
  have hnP : wtb (bofC W rs) ≤ 1048576 := Nat.le_trans (wtb_bofC W rs) hn
  clear s1
  go_wp2_with fail
  refine (toValueSS_F (.slice a l c) rs w1 (hr.below hb1) hn).mono ?_
  rintro e w2 ⟨⟨u2, F2, rfl, hU2, hO2⟩, hb2⟩
  obtain ⟨a2, l2, c2, rfl⟩ := hU2.is.shape
  have bel2 : Below w.heap.size w w2 := hb1.trans (hb2.mono hb1.size)
  clear hb2 hb1
  go_wp2_with fail
  refine (specBof_any W (.slice a2 l2 c2) rs F2 w2 hU2 hw hn hcw).mono ?_
  rintro e w3 ⟨⟨u3, us3, G3, rfl, hB3⟩, hb3⟩
  obtain ⟨F3, hS3, _⟩ := hB3.rowsF
  obtain ⟨s3, l3, c3, rfl⟩ := hS3.is.shape
  have bel3 : Below w.heap.size w w3 := bel2.trans (hb3.mono bel2.size)
  clear hb3 bel2 hU2 hO2 hB3
  have hAB0 : Below w3.heap.size w3 (w3.alloc (.cells #[.int .i64 W, .slice s3 l3 c3] 26)) := (Below.refl _ _).alloc (Nat.le_refl _) _
  have belB : Below w.heap.size w (w3.alloc (.cells #[.int .i64 W, .slice s3 l3 c3] 26)) := bel3.trans (hAB0.mono bel3.size)
  have hSB := hS3.is.below hAB0
  have hAB : w3.heap.size < (w3.alloc (.cells #[.int .i64 W, .slice s3 l3 c3] 26)).heap.size := by simp
  have A0 : (w3.alloc (.cells #[.int .i64 W, .slice s3 l3 c3] 26)).cell? ⟨w3.heap.size, 0, none⟩ = some (.int .i64 W) := by go_simp
  have A1 : (w3.alloc (.cells #[.int .i64 W, .slice s3 l3 c3] 26)).cell? ⟨w3.heap.size, 1, none⟩ = some (.slice s3 l3 c3) := by go_simp
  go_wp2_with fail
  generalize w3.alloc (.cells #[.int .i64 W, .slice s3 l3 c3] 26) = wB at hAB0 belB hSB hAB A0 A1 ⊢
  clear hAB0 hS3 bel3
  refine (toValueSS_F (.slice a l c) rs wB (hr.below belB) hn).mono ?_
  rintro e w4 ⟨⟨u4, F4, rfl, hU4, hO4⟩, hb4⟩
  obtain ⟨a4, l4, c4, rfl⟩ := hU4.is.shape
  have hl4 := hU4.lt
  go_wp2_with fail
  refine (implBof_any W (.slice a4 l4 c4) rs F4 w4 hU4 hw hn).mono ?_
  rintro e w5 ⟨⟨u5, us5, G5, rfl, hB5⟩, hb5⟩
  obtain ⟨F5, hG5, hO5⟩ := hB5.rowsF
  obtain ⟨s5, l5, c5, rfl⟩ := hG5.is.shape
  have hU5 := hU4.below hb5
  have hO45 := Own.below hO4 hl4 hb5
  have hBB5 : Below wB.heap.size wB w5 := hb4.trans (hb5.mono hb4.size)
  have hz45 := hb5.size
  have hz4B := hb4.size
  clear hb4 hb5 hB5 hU4 hO4
  have al : Below w5.heap.size w5 (w5.alloc (.cells #[.int .i64 W, .slice s5 l5 c5] 26)) := (Below.refl _ _).alloc (Nat.le_refl _) _
  have hl5 := hG5.lt
  have hU6 := hU5.below al
  have hG6 := hG5.below al
  have hO46 := Own.below hO45 hU5.lt al
  have hO56 := Own.below hO5 hl5 al
  have hBB6 : Below wB.heap.size wB (w5.alloc (.cells #[.int .i64 W, .slice s5 l5 c5] 26)) := hBB5.trans (al.mono hBB5.size)
  have hGlt : w5.heap.size < (w5.alloc (.cells #[.int .i64 W, .slice s5 l5 c5] 26)).heap.size := by simp
  have G0 : (w5.alloc (.cells #[.int .i64 W, .slice s5 l5 c5] 26)).cell? ⟨w5.heap.size, 0, none⟩ = some (.int .i64 W) := by go_simp
  have G1 : (w5.alloc (.cells #[.int .i64 W, .slice s5 l5 c5] 26)).cell? ⟨w5.heap.size, 1, none⟩ = some (.slice s5 l5 c5) := by go_simp
  have hB5s := hBB5.size
  have a0 : (w5.alloc (.cells #[.int .i64 W, .slice s5 l5 c5] 26)).cell? ⟨w3.heap.size, 0, none⟩ = some (.int .i64 W) := (hBB6.cell (p := ⟨w3.heap.size, 0, none⟩) hAB).trans A0
  have a1 : (w5.alloc (.cells #[.int .i64 W, .slice s5 l5 c5] 26)).cell? ⟨w3.heap.size, 1, none⟩ = some (.slice s3 l3 c3) := (hBB6.cell (p := ⟨w3.heap.size, 1, none⟩) hAB).trans A1
  go_wp2_with fail
  generalize w5.alloc (.cells #[.int .i64 W, .slice s5 l5 c5] 26) = w6 at al hU6 hG6 hO46 hO56 hBB6 hGlt G0 G1 a0 a1 ⊢
  clear al hU5 hG5 hO45 hO5 hBB5
  refine Calls.mono (eqBag_same W (.slice s5 l5 c5) (.slice s3 l3 c3) (bofC W rs) w6 hG6.is (hSB.below hBB6)) ?_
  rintro e w7 ⟨rfl, hb7⟩
  have hBB7 : Below wB.heap.size wB w7 := hBB6.trans (hb7.mono hBB6.size)
  have bel7 : Below w.heap.size w w7 := belB.trans (hBB7.mono belB.size)
  clear a0 a1
  go_wp2_with fail
  refine (toValueSS_F (.slice a l c) rs w7 (hr.below bel7) hn).mono ?_
  rintro e w8 ⟨⟨u8, F8, rfl, hU8, _⟩, hb8⟩
  obtain ⟨a8, l8, c8, rfl⟩ := hU8.is.shape
  have hb68 : Below w6.heap.size w6 w8 := hb7.trans (hb8.mono hb7.size)
  go_wp2_with fail
  refine Calls.mono (eqValueSS_same (.slice a4 l4 c4) (.slice a8 l8 c8) rs w8 (hU6.is.below hb68) hU8.is) ?_
  rintro e w9 ⟨rfl, hb9⟩
  have hb69 : Below w6.heap.size w6 w9 := hb68.trans (hb9.mono hb68.size)
  have hU9 := hU6.below hb69
  have hO49 := Own.below hO46 hU6.lt hb69
  have hG9 := hG6.below hb69
  have hO59 := Own.below hO56 hG6.lt hb69
  have hBB9 : Below wB.heap.size wB w9 := hBB6.trans (hb69.mono hBB6.size)
  have K0 := (hb69.cell (p := ⟨w5.heap.size, 0, none⟩) hGlt).trans G0
  have K1 := (hb69.cell (p := ⟨w5.heap.size, 1, none⟩) hGlt).trans G1
  have hGl9 : w5.heap.size < w9.heap.size := Nat.lt_of_lt_of_le hGlt hb69.size
  clear hb7 hb8 hb9 hb68 hb69 hU8 hU6 hO46 hG6 hO56 hBB6 hBB7 bel7 G0 G1 hGlt
  go_wp2_with fail
  refine Calls.mono (markValueSS_any 1 (.slice a4 l4 c4) rs F4 w9 hU9 hO49.1 hO49.2.2 (by decide) (by omega)) ?_
  rintro e w10 ⟨⟨kx, rfl, hk1, hk2⟩, hc10⟩
  have d45 : ∀ b ∈ F5, b ∉ F4 := fun b hb h => by have := hO59.2.1 b hb; have := hl4 b h; omega
  have hG10 := hG9.chg hc10 d45
  have hO510 : Own w10 w4.heap.size F5 := Own.keep hO59 fun b hb => hc10.block b (hG9.lt b hb) (d45 b hb)
  have hgb : w10.heap[w5.heap.size]? = w9.heap[w5.heap.size]? := hc10.block _ hGl9 (fun h => by have := hl4 _ h; omega)
  have G0 := (cell_blk hgb).trans K0
  have G1 := (cell_blk hgb).trans K1
  have hBB10 : Below wB.heap.size wB w10 := hBB9.trans (hc10.below (fun b hb => hO49.2.1 b hb) hBB9.size)
  have hGl10 : w5.heap.size < w10.heap.size := Nat.lt_of_lt_of_le hGl9 hc10.size
  clear hU9 hO49 hG9 hO59 hBB9 K0 K1 hgb hc10 hGl9
  have a0 : w10.cell? ⟨w3.heap.size, 0, none⟩ = some (.int .i64 W) := (hBB10.cell (p := ⟨w3.heap.size, 0, none⟩) hAB).trans A0
  have a1 : w10.cell? ⟨w3.heap.size, 1, none⟩ = some (.slice s3 l3 c3) := (hBB10.cell (p := ⟨w3.heap.size, 1, none⟩) hAB).trans A1
  go_wp2_with fail
  refine Calls.mono (eqBag_same W (.slice s5 l5 c5) (.slice s3 l3 c3) (bofC W rs) w10 hG10.is (hSB.below hBB10)) ?_
  rintro e w11 ⟨rfl, hb11⟩
  have hG11 := hG10.below hb11
  have hO511 := Own.below hO510 hG10.lt hb11
  have hBB11 : Below wB.heap.size wB w11 := hBB10.trans (hb11.mono hBB10.size)
  have g0 : w11.cell? ⟨w5.heap.size, 0, none⟩ = some (.int .i64 W) := (hb11.cell (p := ⟨w5.heap.size, 0, none⟩) hGl10).trans G0
  have g1' : w11.cell? ⟨w5.heap.size, 1, none⟩ = some (.slice s5 l5 c5) := (hb11.cell (p := ⟨w5.heap.size, 1, none⟩) hGl10).trans G1
  have hGl11 : w5.heap.size < w11.heap.size := Nat.lt_of_lt_of_le hGl10 hb11.size
  clear hb11 hG10 hO510 hBB10 G0 G1 hGl10 a0 a1
  go_wp2_with fail
  refine Calls.mono (markBag_any W 1 (.slice s5 l5 c5) (bofC W rs) F5 w11 hG11 hO511.1 hO511.2.2 (by decide) (by omega)) ?_
  rintro e w12 ⟨rfl, hG12, hc12⟩
  have hgb : w12.heap[w5.heap.size]? = w11.heap[w5.heap.size]? := hc12.block _ hGl11 (fun h => by have := hl5 _ h; omega)
  have G0 := (cell_blk hgb).trans g0
  have G1 := (cell_blk hgb).trans g1'
  have hBB12 : Below wB.heap.size wB w12 := hBB11.trans (hc12.below (fun b hb => by have := hO511.2.1 b hb; omega) hBB11.size)
  have hGl12 : w5.heap.size < w12.heap.size := Nat.lt_of_lt_of_le hGl11 hc12.size
  have hheld := fun w' h => heldBag_any W 1 (.slice s5 l5 c5) (bofC W rs) w' h (by decide) (by omega)
  have hoff := offC_le 1 (bofC W rs) (bofC W rs).length
  generalize offC 1 (bofC W rs) (bofC W rs).length = kg at hheld hoff ⊢
  have HH : Hid (∀ w', RowsIs w' (.slice s5 l5 c5) (mC 1 (bofC W rs)) → Calls Try.prog 18 #[.agg #[.int .i64 W, .slice s5 l5 c5], .int .i64 ((1 : Nat) : Int)] w' fun e w'' => e = .returned (.int .i64 ((kg : Nat) : Int)) ∧ Below w'.heap.size w' w'') := hheld
  clear hheld hG11 hO511 hBB11 hc12 hgb g0 g1' hGl11
  go_wp2_with fail
  refine Calls.mono (HH.out w12 hG12.is) ?_
  rintro e w13 ⟨rfl, hb13⟩
  have hBB13 : Below wB.heap.size wB w13 := hBB12.trans (hb13.mono hBB12.size)
  have bel13 : Below w.heap.size w w13 := belB.trans (hBB13.mono belB.size)
  have hkg : ((kg : Int) == kg) = true := by simp
  go_wp2_with fail
  refine (toValueSS_F (.slice a l c) rs w13 (hr.below bel13) hn).mono ?_
  rintro e w14 ⟨⟨u14, F14, rfl, hU14, _⟩, hb14⟩
  obtain ⟨a14, l14, c14, rfl⟩ := hU14.is.shape
  go_wp2_with fail
  refine (implBof_any W (.slice a14 l14 c14) rs F14 w14 hU14 hw hn).mono ?_
  rintro e w15 ⟨⟨u15, us15, G15, rfl, hB15⟩, hb15⟩
  obtain ⟨F15, hG15, _⟩ := hB15.rowsF
  obtain ⟨s15, l15, c15, rfl⟩ := hG15.is.shape
  have hb1215 : Below w12.heap.size w12 w15 := hb13.trans ((hb14.trans (hb15.mono hb14.size)).mono hb13.size)
  have al : Below w15.heap.size w15 (w15.alloc (.cells #[.int .i64 W, .slice s15 l15 c15] 26)) := (Below.refl _ _).alloc (Nat.le_refl _) _
  have hH0 : (w15.alloc (.cells #[.int .i64 W, .slice s15 l15 c15] 26)).cell? ⟨w15.heap.size, 0, none⟩ = some (.int .i64 W) := by go_simp
  have hH1 : (w15.alloc (.cells #[.int .i64 W, .slice s15 l15 c15] 26)).cell? ⟨w15.heap.size, 1, none⟩ = some (.slice s15 l15 c15) := by go_simp
  have hG16 := hG15.is.below al
  have hb1216 : Below w12.heap.size w12 (w15.alloc (.cells #[.int .i64 W, .slice s15 l15 c15] 26)) := hb1215.trans (al.mono hb1215.size)
  have hBB16 : Below wB.heap.size wB (w15.alloc (.cells #[.int .i64 W, .slice s15 l15 c15] 26)) := hBB12.trans (hb1216.mono hBB12.size)
  have a0 : (w15.alloc (.cells #[.int .i64 W, .slice s15 l15 c15] 26)).cell? ⟨w3.heap.size, 0, none⟩ = some (.int .i64 W) := (hBB16.cell (p := ⟨w3.heap.size, 0, none⟩) hAB).trans A0
  have a1 : (w15.alloc (.cells #[.int .i64 W, .slice s15 l15 c15] 26)).cell? ⟨w3.heap.size, 1, none⟩ = some (.slice s3 l3 c3) := (hBB16.cell (p := ⟨w3.heap.size, 1, none⟩) hAB).trans A1
  go_wp2_with fail
  generalize w15.alloc (.cells #[.int .i64 W, .slice s15 l15 c15] 26) = w16 at al hH0 hH1 hG16 hb1216 hBB16 a0 a1 ⊢
  clear hb13 hb14 hb15 hb1215 hB15 hG15 hU14 al hBB13 bel13
  refine Calls.mono (eqBag_same W (.slice s15 l15 c15) (.slice s3 l3 c3) (bofC W rs) w16 hG16 (hSB.below hBB16)) ?_
  rintro e w17 ⟨rfl, hb17⟩
  have hb1217 : Below w12.heap.size w12 w17 := hb1216.trans (hb17.mono hb1216.size)
  have g0 : w17.cell? ⟨w5.heap.size, 0, none⟩ = some (.int .i64 W) := (hb1217.cell (p := ⟨w5.heap.size, 0, none⟩) hGl12).trans G0
  have g1' : w17.cell? ⟨w5.heap.size, 1, none⟩ = some (.slice s5 l5 c5) := (hb1217.cell (p := ⟨w5.heap.size, 1, none⟩) hGl12).trans G1
  go_wp2_with fail
  refine Calls.mono (HH.out w17 (hG12.is.below hb1217)) ?_
  rintro e w18 ⟨rfl, hb18⟩
  have belE : Below w.heap.size w w18 := belB.trans ((hBB12.trans ((hb1217.trans (hb18.mono hb1217.size)).mono hBB12.size)).mono belB.size)
  go_wp2
  go_returns
  exact ⟨rfl, belE⟩
end Go.Proofs.Ytdkbhoichmcodaa.fnExactBagOf
