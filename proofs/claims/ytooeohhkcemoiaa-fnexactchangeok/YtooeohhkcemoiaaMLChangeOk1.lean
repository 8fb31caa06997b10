/- Own texts, joined: contracts that the law's proof goes by. -/
import Derived.Test.YtooeohhkcemoiaaPutP
import Derived.Test.YtooeohhkcemoiaaTalC
import Derived.Test.YtooeohhkcemoiaaBagOkI
import Derived.Handy
import Derived.Test.YtooeohhkcemoiaaLastE
import Derived.RangeFuncNested
import Derived.RangeFuncBound
import Derived.RangeFuncCalls
import Derived.RangeFuncLeaves
import Derived.Shelf.Abstract
import Derived.WalkKit
import Derived.OwnWalkIn
import Derived.TacticsInMore
import Derived.LoopNIn
import Derived.LoopIn
import Derived.OrdersIn
import Derived.Maps.RangeWalk
import Derived.RangeFuncBox
import Derived.Test.YtooeohhkcemoiaaTake
import Derived.Deep.RegionHeld3
import Derived.Test.YtooeohhkcemoiaaDbC
import Derived.Test.YtooeohhkcemoiaaRelK
import Derived.Test.YtooeohhkcemoiaaBagO
import Derived.Deep.DeepCutAuto
import Derived.Deep.AppendLies
import Derived.Laws.OwnMore
/- Own text. What a row more does to a bag's length and counts; two bags together (sumC): the contract of spec.l02Sum. -/
namespace Go.Proofs.Ytooeohhkcemoiaa
open Go.RowKit
set_option linter.unusedVariables false
theorem putC_len (cs : List C2) (row : List V3) (n : Int) : (putC cs row n).length ≤ cs.length + 1 := by
  unfold putC
  have hle := ahead_le cs row
  split
  · split
    · split
      · simp
      · simp; omega
    · split
      · simp; omega
      · omega
  · split
    · simp; omega
    · omega
theorem putC_bound {cs : List C2} {row : List V3} {n M m : Int} (h : ∀ c ∈ cs, -M ≤ c.n ∧ c.n ≤ M) (hn : -m ≤ n ∧ n ≤ m) (hM : 0 ≤ M) (hm : 0 ≤ m) : ∀ c ∈ putC cs row n, -(M + m) ≤ c.n ∧ c.n ≤ M + m := by
  have hw : ∀ c ∈ cs, -(M + m) ≤ c.n ∧ c.n ≤ M + m := fun c hc => by have := h c hc; omega
  have ins : ∀ c ∈ cs.take (ahead cs row) ++ (⟨row, n⟩ : C2) :: cs.drop (ahead cs row), -(M + m) ≤ c.n ∧ c.n ≤ M + m := by
    intro c hc
    rcases List.mem_append.1 hc with h1 | h1
    · exact hw c (List.mem_of_mem_take h1)
    · rcases List.mem_cons.1 h1 with rfl | h1
      · dsimp only; omega
      · exact hw c (List.mem_of_mem_drop h1)
  unfold putC
  split
  · rename_i x hx
    have hxm := h x (List.mem_of_getElem? hx)
    split
    · split
      · intro c hc
        rcases List.mem_or_eq_of_mem_set hc with h1 | rfl
        · exact hw c h1
        · dsimp only; omega
      · intro c hc
        rcases List.mem_append.1 hc with h1 | h1
        · exact hw c (List.mem_of_mem_take h1)
        · exact hw c (List.mem_of_mem_drop h1)
    · split
      · exact ins
      · exact hw
  · split
    · exact ins
    · exact hw
/-- two bags together, the other one n times. -/
def sumC (cs ds : List C2) (n : Int) : List C2 := ds.foldl (fun t x => putC t x.r (n * x.n)) cs
theorem sumC_snoc (cs ds : List C2) (x : C2) (n : Int) : sumC cs (ds ++ [x]) n = putC (sumC cs ds n) x.r (n * x.n) := by simp [sumC]
theorem sumC_all {n : Int} : ∀ {ds cs : List C2}, Asc cs → (∀ c ∈ cs, c.n ≠ 0) →
    Asc (sumC cs ds n) ∧ (∀ c ∈ sumC cs ds n, c.n ≠ 0) ∧ ∀ q, cntC (sumC cs ds n) q = cntC cs q + (ds.map fun x => if cmpRow x.r q = 0 then n * x.n else 0).sum
  | [], cs, h, hz => ⟨h, hz, fun q => by simp [sumC]⟩
  | x :: ds, cs, h, hz => by
    obtain ⟨h1, h2, h3⟩ := put_all x.r (n * x.n) h hz
    obtain ⟨k1, k2, k3⟩ := sumC_all (n := n) (ds := ds) h1 h2
    refine ⟨k1, k2, fun q => ?_⟩
    show cntC (sumC (putC cs x.r (n * x.n)) ds n) q = _
    rw [k3 q, h3 q]
    simp only [List.map_cons, List.sum_cons]
    omega
theorem sumC_bound {cs : List C2} {n M m : Int} (h : ∀ c ∈ cs, -M ≤ c.n ∧ c.n ≤ M) (hM : 0 ≤ M) (hm : 0 ≤ m) : ∀ {ds : List C2}, (∀ x ∈ ds, -m ≤ n * x.n ∧ n * x.n ≤ m) → (sumC cs ds n).length ≤ cs.length + ds.length ∧ ∀ c ∈ sumC cs ds n, -(M + ds.length * m) ≤ c.n ∧ c.n ≤ M + ds.length * m := by
  intro ds
  induction ds generalizing cs M with
  | nil => intro _; exact ⟨by simp [sumC], fun c hc => by have := h c hc; simp; omega⟩
  | cons x ds ih =>
    intro hd
    have hx := hd x (List.mem_cons_self ..)
    obtain ⟨h1, h2⟩ := ih (cs := putC cs x.r (n * x.n)) (M := M + m) (putC_bound h hx hM hm) (by omega) (fun y hy => hd y (List.mem_cons_of_mem _ hy))
    have hl := putC_len cs x.r (n * x.n)
    refine ⟨by show (sumC (putC cs x.r (n * x.n)) ds n).length ≤ _; simp; omega, fun c hc => ?_⟩
    have hc2 := h2 c hc
    have e : ((x :: ds).length : Int) * m = ds.length * m + m := by simp [Int.add_mul]
    omega
end Go.Proofs.Ytooeohhkcemoiaa
/- Own text. Two bags together, in plain words: the tally of both, in order, is their sum. -/
namespace Go.Proofs.Ytooeohhkcemoiaa
open Go.RowKit
set_option linter.unusedVariables false
theorem okCs_all : ∀ {W : Int} {p : Option C2} {cs : List C2}, okCs W p cs = true → Asc cs ∧ (∀ y, p = some y → ∀ c ∈ cs, cmpRow y.r c.r < 0) ∧ ∀ c ∈ cs, okRow c.r W = true ∧ okN c.n = true
  | W, p, [], _ => ⟨List.Pairwise.nil, fun _ _ _ h => (by cases h), fun _ h => (by cases h)⟩
  | W, p, x :: xs, h => by
    simp only [okCs, Bool.and_eq_true] at h
    obtain ⟨⟨⟨h1, h2⟩, h3⟩, h4⟩ := h
    obtain ⟨a1, a2, a3⟩ := okCs_all h4
    refine ⟨List.pairwise_cons.2 ⟨a2 x rfl, a1⟩, fun y hy c hc => ?_, fun c hc => ?_⟩
    · subst hy
      have h5 : cmpRow y.r x.r < 0 := by simpa [okPrev] using h3
      rcases List.mem_cons.1 hc with rfl | hc
      · exact h5
      · exact cmpRow_trans h5 (a2 x rfl c hc)
    · rcases List.mem_cons.1 hc with rfl | hc
      · exact ⟨h1, h2⟩
      · exact a3 c hc
theorem okBag_all {W : Int} {cs : List C2} (h : okBag W cs = true) (hw : CsWf cs) : 0 ≤ W ∧ W ≤ 12 ∧ cs.length ≤ 400 ∧ Asc cs ∧ ∀ c ∈ cs, GoodRow W c.r ∧ c.n ≠ 0 ∧ -1000000000 ≤ c.n ∧ c.n ≤ 1000000000 := by
  simp only [okBag, Bool.and_eq_true, decide_eq_true_eq] at h
  obtain ⟨⟨⟨h1, h2⟩, h3⟩, h4⟩ := h
  obtain ⟨a1, _, a3⟩ := okCs_all h4
  refine ⟨h1, h2, h3, a1, fun c hc => ?_⟩
  obtain ⟨b1, b2⟩ := a3 c hc
  simp only [okN, Bool.and_eq_true, decide_eq_true_eq] at b2
  exact ⟨⟨b1, (hw c hc).1⟩, b2.1.1, b2.1.2, b2.2⟩
theorem cntC_out {W : Int} {cs : List C2} {r : List V3} (h : ∀ c ∈ cs, GoodRow W c.r) (hr : ¬ GoodRow W r) : cntC cs r = 0 := cntC_none fun c hc e => hr (e ▸ h c hc)
theorem totC_sum (ds : List C2) (q : List V3) : (ds.map fun x => if cmpRow x.r q = 0 then 1 * x.n else 0).sum = totC ds q := by
  induction ds with
  | nil => rfl
  | cons x xs ih => rw [List.map_cons, List.sum_cons, ih, totC, Int.one_mul]
/-- the tally of two bags, in order, is their sum. -/
theorem ordered_sum {W : Int} {cs ds xs : List C2} (hc : okBag W cs = true) (hd : okBag W ds = true) (wc : CsWf cs) (wd : CsWf ds) (h : OrderedOf W (cs ++ ds) xs) : xs = sumC cs ds 1 := by
  obtain ⟨_, _, _, ac, gc⟩ := okBag_all hc wc
  obtain ⟨_, _, _, ad, gd⟩ := okBag_all hd wd
  obtain ⟨s1, s2, s3⟩ := sumC_all (n := 1) (ds := ds) ac (fun c hc => (gc c hc).2.1)
  refine asc_ext h.asc s1 (fun c hc => (h.good c hc).1) s2 fun r => ?_
  rw [s3, totC_sum]
  by_cases hr : GoodRow W r
  · rw [← totC_asc r h.asc, h.tot r hr, totC_app, totC_asc r ac]
  · rw [cntC_out (fun c hc => (h.good c hc).2) hr, cntC_out (fun c hc => (gc c hc).1) hr, totC_none (r := r) fun c hc e => hr (e ▸ (gd c hc).1)]
    rfl
theorem pw_to {α : Type} {R S : α → α → Prop} (f : ∀ a b, R a b → S a b) : ∀ {l : List α}, l.Pairwise R → l.Pairwise S
  | [], _ => List.Pairwise.nil
  | a :: l, h => by
    cases h with
    | cons h1 h2 => exact List.Pairwise.cons (fun b hb => f a b (h1 b hb)) (pw_to f h2)
theorem wf_small {n : Int} (h : -9223372036854775808 ≤ n ∧ n ≤ 9223372036854775807) : (Lit.int .i64 n).wf = true := by
  have e1 : IntKind.i64.min = -9223372036854775808 := rfl
  have e2 : IntKind.i64.max = 9223372036854775807 := rfl
  simp [Lit.wf, e1, e2]
  omega
theorem ordered_wf {W : Int} {cs ds : List C2} (h : OrderedOf W cs ds) (hs : SmallC cs) : CsWf ds := fun c hc => by
  refine ⟨(h.good c hc).2.2, wf_small ?_⟩
  have h1 := h.tot c.r (h.good c hc).2
  rw [totC_asc c.r h.asc] at h1
  have h2 : cntC ds c.r = c.n := by
    rw [← totC_asc c.r h.asc]
    exact totC_mem (pw_to (fun _ _ h => lt_ne h) h.asc) hc
  have h3 := hs.tot (cs := cs) ⟨[], by simp⟩ c.r
  omega
theorem sumC_wf {W : Int} {cs ds : List C2} (hc : okBag W cs = true) (hd : okBag W ds = true) (wc : CsWf cs) (wd : CsWf ds) : CsWf (sumC cs ds 1) := fun c hm => by
  obtain ⟨_, _, lc, ac, gc⟩ := okBag_all hc wc
  obtain ⟨_, _, ld, ad, gd⟩ := okBag_all hd wd
  obtain ⟨s1, s2, s3⟩ := sumC_all (n := 1) (ds := ds) ac (fun c hc => (gc c hc).2.1)
  have h2 : cntC (sumC cs ds 1) c.r = c.n := by
    rw [← totC_asc c.r s1]
    exact totC_mem (pw_to (fun _ _ h => lt_ne h) s1) hm
  rw [s3, totC_sum, ← totC_asc c.r ac] at h2
  have b1 := totC_bound (cs := cs) (M := 1000000000) (fun x hx => (gc x hx).2.2) (by decide) c.r
  have b2 := totC_bound (cs := ds) (M := 1000000000) (fun x hx => (gd x hx).2.2) (by decide) c.r
  have l1 : (cs.length : Int) ≤ 400 := by omega
  have l2 : (ds.length : Int) ≤ 400 := by omega
  refine ⟨?_, wf_small (by omega)⟩
  by_cases h1 : ∃ x ∈ cs, x.r = c.r
  · obtain ⟨x, hx, e⟩ := h1
    rw [← e]; exact (wc x hx).1
  by_cases h3 : ∃ x ∈ ds, x.r = c.r
  · obtain ⟨x, hx, e⟩ := h3
    rw [← e]; exact (wd x hx).1
  · have e1 : totC cs c.r = 0 := totC_none fun x hx e => h1 ⟨x, hx, e⟩
    have e2 : totC ds c.r = 0 := totC_none fun x hx e => h3 ⟨x, hx, e⟩
    have := s2 c hm
    omega
/-- what two bags are together, or the first one where that is none. -/
def addC (W Wb : Int) (cs ds : List C2) : List C2 := if (okBag W cs && okBag Wb ds && W == Wb && okBag W (sumC cs ds 1)) = true then sumC cs ds 1 else cs
end Go.Proofs.Ytooeohhkcemoiaa
/- Own text. A range over a method value that is bound to its receiver, inside the wide fence, whose body never leaves the loop; and a drawn region inside a round. -/
namespace Go.Proofs.Ytooeohhkcemoiaa
open Go Go.RowKit
set_option linter.unusedVariables false
section
variable {P : Program}
/-- nothing but what O names has turned of what lay. -/
def KeptBut (O : Nat → Prop) (A B : World) : Prop := A.heap.size ≤ B.heap.size ∧ ∀ k, k < A.heap.size → ¬ O k → B.heap[k]? = A.heap[k]?
/-- what X names lies as it lay, and the world outside the heap too. -/
structure SameOn (X : Nat → Prop) (A B : World) : Prop where
  os : B.os = A.os
  tape : B.tape = A.tape
  output : B.output = A.output
  size : A.heap.size ≤ B.heap.size
  block : ∀ k, k < A.heap.size → X k → B.heap[k]? = A.heap[k]?
theorem SameOn.putObj {X : Nat → Prop} {A : World} {l : Nat} (o : Obj) (h : ¬ X l) : SameOn X A (A.putObj l o) :=
  ⟨rfl, rfl, rfl, by simp [World.putObj], fun k _ hk => World.putObj_heap_other (fun e => h (by rw [← e]; exact hk))⟩
theorem SameOn.of_grown {X : Nat → Prop} {A B : World} {row : Option Nat} (h : A.grownBy B row) (hr : ∀ r, row = some r → ¬ X r) : SameOn X A B :=
  ⟨h.os, h.tape, h.output, h.size, fun k hk hX => h.block k hk (fun e => hr k e.symm hX)⟩
theorem SameOn.of_below {X : Nat → Prop} {A B : World} (h : Below A.heap.size A B) : SameOn X A B := ⟨h.os, h.tape, h.output, h.size, fun k hk _ => h.block k hk⟩
theorem SameOn.trans {X : Nat → Prop} {A B C : World} (h : SameOn X A B) (k : SameOn X B C) : SameOn X A C :=
  ⟨k.os.trans h.os, k.tape.trans h.tape, k.output.trans h.output, Nat.le_trans h.size k.size, fun i hi hX => (k.block i (Nat.lt_of_lt_of_le hi h.size) hX).trans (h.block i hi hX)⟩
theorem KeptBut.trans {O O' : Nat → Prop} {A B C : World} (h : KeptBut O A B) (k : KeptBut O' B C) (hO : ∀ i, O' i → O i ∨ A.heap.size ≤ i) : KeptBut O A C :=
  ⟨Nat.le_trans h.1 k.1, fun i hi hn => (k.2 i (Nat.lt_of_lt_of_le hi h.1) (fun e => by rcases hO i e with h1 | h1; exact hn h1; omega)).trans (h.2 i hi hn)⟩
/-- the rounds' contract of an iterator that is called with its receiver and yield: it gives all, in an order that S tells; its rounds turn their own blocks alone (O), and it turns its own alone. -/
def SeqAll {α : Type} (P : Program) (gf : Nat) (recv : Value) (encs : α → Array Value) (Nm : Nat) (S : List α → Prop) (w : World) : Prop :=
  ∀ (l : Nat) (J : List α → (Nat → Prop) → World → Prop) (W : World), Below w.heap.size w W →
    (∀ pre O A B, J pre O A → SameOn (fun k => k < W.heap.size ∨ O k) A B → J pre O B) →
    (∀ pre O x W1, J pre O W1 → pre.length < Nm → YieldAt Fence.wide 0 P l (encs x) W1 fun e W' => e = .returned (.bool true) ∧ ∃ O', J (pre ++ [x]) O' W' ∧ KeptBut O W1 W' ∧ ∀ k, O' k → O k ∨ W1.heap.size ≤ k) →
    ∀ O, J [] O W → (∀ k, O k → k < W.heap.size) →
    CallsIn Fence.wide 0 P gf #[recv, .func (.yield l) #[] #[]] W fun e W' => (∃ v, e = .returned v) ∧ ∃ xs O', S xs ∧ J xs O' W'
/-- how a round's body ends. -/
def goesOn {α : Type} (I : List α → (Nat → Prop) → World → Prop) (xs : List α) (O : Nat → Prop) (W : World) : Exit → Act → World → Prop
  | .normal, _, W' => ∃ O', I xs O' W' ∧ KeptBut O W W' ∧ ∀ k, O' k → O k ∨ W.heap.size ≤ k
  | _, _, _ => False
set_option maxHeartbeats 1000000 in
theorem rangeBound {α : Type} {g : Operand} {ps : Array Tmp} {assign body : Code} {Q : Exit → Act → World → Prop} {a : Act} {w : World} {gf : Nat} {recv : Value}
    (hg : a.eval g = .func (.func gf) #[recv] #[]) (eg : ∀ args w, (callFunc gf args).run P w = .ok (.enter gf args) w)
    {encs : α → Array Value} {Nm : Nat} {S : List α → Prop} (hseq : SeqAll P gf recv encs Nm S w) (hps : ∀ x, (encs x).size = ps.size)
    (I : List α → (Nat → Prop) → World → Prop) (hI : ∀ pre O A B, I pre O A → SameOn (fun k => k < w.heap.size ∨ O k) A B → I pre O B) (O₀ : Nat → Prop) (hO₀ : ∀ k, O₀ k → k < w.heap.size) (h0 : I [] O₀ w)
    (Ax : α → (Nat → Prop) → Act → World → Prop) (hAx : ∀ x O a' A o, Ax x O a' A → Ax x O a' (A.putObj (w.heap.size + 1) o))
    (hassign : ∀ (l : Nat) (pre : List α) (O : Nat → Prop) (x : α) (W : World) (K : Act → World → Prop), I pre O W → w.heap.size + 2 ≤ W.heap.size → (∀ a' W', KeptBut O W W' → I pre O W' → Ax x O a' W' → K a' W') →
      assign.wpIn (Fence.wide.inRound l) 0 P (Exit.then K (fun _ _ _ => False)) { tmps := (ps.zip (encs x)).foldl (fun t (p, v) => t.setIfInBounds p v) a.tmps, defers := [] } W)
    (hbody : ∀ (l : Nat) (pre : List α) (O : Nat → Prop) (x : α) (a' : Act) (W : World), I pre O W → Ax x O a' W → w.heap.size + 2 ≤ W.heap.size → pre.length < Nm → body.wpIn (Fence.wide.inRound l) 0 P (goesOn I (pre ++ [x]) O W) a' W)
    (hdone : ∀ (D : Nat) (xs : List α) (O : Nat → Prop) (W : World), w.heap.size ≤ D → (∀ k, O k → k ≠ D) → S xs → I xs O W → W.heap[D]? = some (.deferred (some [])) → Q .normal { a with defers := { target := .collected D, args := #[] } :: a.defers } W) :
    (Code.rangeFunc g ps assign body).wpIn Fence.wide 0 P Q a w := by
  refine wpIn_rangeFunc fun fn hfn => ?_
  obtain ⟨L, hL⟩ : ∃ L : LoopState → Loop, L = fun st => { state := st, pending := none, fn, tmps := a.tmps, params := ps, assign, body, defers := w.heap.size } := ⟨_, rfl⟩
  obtain ⟨W1, hW1⟩ : ∃ W1, (w.alloc (.deferred (some []))).alloc (.loop (L .ready)) = W1 := ⟨_, rfl⟩
  have hs1 : W1.heap.size = w.heap.size + 2 := by rw [← hW1]; simp
  have hloop : W1.heap[w.heap.size + 1]? = some (.loop (L .ready)) := by
    rw [← hW1]
    have := World.alloc_heap_new (w.alloc (.deferred (some []))) (.loop (L .ready))
    rwa [World.size_alloc] at this
  have hdef : W1.heap[w.heap.size]? = some (.deferred (some [])) := by
    rw [← hW1]
    exact (Below.heap_alloc _ _ _ (by simp)).trans (World.alloc_heap_new w _)
  have hb1 : Below w.heap.size w W1 := by rw [← hW1]; exact ((Below.refl _ w).alloc (Nat.le_refl _) _).alloc (by simp) _
  have hI1 : I [] O₀ W1 := hI _ _ _ _ h0 (SameOn.of_below hb1)
  refine ⟨w.heap.size + 1, [{ target := .collected w.heap.size, args := #[] }], W1, { target := .fn (.func gf) #[], args := #[recv, .func (.yield (w.heap.size + 1)) #[] #[]] }, W1, gf, #[recv, .func (.yield (w.heap.size + 1)) #[] #[]], W1, ?_, ?_, fun _ _ => trivial, ?_, fun h => (by cases h), ?_⟩
  · rw [← hW1, hL]
    exact run_enterLoop_outer _ _ _ _ _
  · simp only [resolve, hg]
    simp [go_sem]
  · simp [invoke, go_sem, eg]
  refine (hseq (w.heap.size + 1) (fun pre O W => ∃ O1, I pre O1 W ∧ W.heap[w.heap.size + 1]? = some (.loop (L .ready)) ∧ W.heap[w.heap.size]? = some (.deferred (some [])) ∧ (∀ k, O1 k → k < w.heap.size ∨ w.heap.size + 2 ≤ k) ∧ O = fun k => O1 k ∨ k = w.heap.size + 1) W1 hb1 ?_ ?_ _ ⟨O₀, hI1, hloop, hdef, fun k hk => .inl (hO₀ k hk), rfl⟩ ?_).mono ?_
  · rintro pre O A B ⟨O1, hi, hl, hd, hO1, rfl⟩ hs
    refine ⟨O1, hI _ _ _ _ hi ⟨hs.os, hs.tape, hs.output, hs.size, fun k hk hX => hs.block k hk ?_⟩, ?_, ?_, hO1, rfl⟩
    · rcases hX with h | h
      · exact .inl (by omega)
      · exact .inr (.inl h)
    · exact (hs.block _ (Array.getElem?_eq_some_iff.1 hl).1 (.inl (by omega))).trans hl
    · exact (hs.block _ (Array.getElem?_eq_some_iff.1 hd).1 (.inl (by omega))).trans hd
  · rintro pre O x W ⟨O1, hi, hl, hk, hO1, rfl⟩ hNm
    have hlt : w.heap.size + 1 < W.heap.size := (Array.getElem?_eq_some_iff.1 hl).1
    have hno : ¬ (w.heap.size + 1 < w.heap.size ∨ O1 (w.heap.size + 1)) := fun h => by
      rcases h with h | h
      · omega
      · have := hO1 _ h; omega
    have hnd : ¬ O1 w.heap.size := fun h => by have := hO1 _ h; omega
    have hy := run_yield (P := P) (args := encs x) hl (by rw [hL]; exact hps x)
    rw [hL] at hy
    refine ⟨fn, _, assign, body, hy, roundIn_of_wpIn hfn (hassign _ pre O1 x W _ hi (by omega) fun a2 W2 hk2 hi2 hx2 => ?_)⟩
    have hl2 : W2.heap[w.heap.size + 1]? = some (.loop (L .ready)) := (hk2.2 _ hlt (fun h => hno (.inr h))).trans hl
    have hd2 : W2.heap[w.heap.size]? = some (.deferred (some [])) := (hk2.2 _ (by omega) hnd).trans hk
    have hlt2 : w.heap.size + 1 < W2.heap.size := (Array.getElem?_eq_some_iff.1 hl2).1
    refine ⟨_, run_beginRound hl2 (by rw [hL]), ?_⟩
    have hi3 : I pre O1 (W2.putObj (w.heap.size + 1) (.loop { L .ready with state := .busy })) := hI _ _ _ _ hi2 (SameOn.putObj _ hno)
    have hx3 := hAx x O1 a2 W2 (.loop { L .ready with state := .busy }) hx2
    obtain ⟨W3, hW3⟩ : ∃ W3, W2.putObj (w.heap.size + 1) (.loop { L .ready with state := .busy }) = W3 := ⟨_, rfl⟩
    rw [hW3] at hi3 hx3 ⊢
    have hs3 : W3.heap.size = W2.heap.size := by rw [← hW3]; simp [World.putObj]
    have hl3 : W3.heap[w.heap.size + 1]? = some (.loop { L .ready with state := .busy }) := by rw [← hW3]; exact World.putObj_heap_same hlt2
    have ho3 : ∀ k, k ≠ w.heap.size + 1 → W3.heap[k]? = W2.heap[k]? := fun k hk => by rw [← hW3]; exact World.putObj_heap_other hk
    have hd3 : W3.heap[w.heap.size]? = some (.deferred (some [])) := (ho3 _ (by omega)).trans hd2
    refine wpIn_mono (hbody _ pre O1 x a2 W3 hi3 hx3 (by omega) hNm) fun e a4 W4 hp => ?_
    cases e with
    | normal =>
      obtain ⟨O2, hi4, hk4, hO2⟩ := hp
      have hl4 : W4.heap[w.heap.size + 1]? = some (.loop { L .ready with state := .busy }) := (hk4.2 _ (by omega) (fun h => hno (.inr h))).trans hl3
      have hd4 : W4.heap[w.heap.size]? = some (.deferred (some [])) := (hk4.2 _ (by omega) hnd).trans hd3
      have hlt4 : w.heap.size + 1 < W4.heap.size := (Array.getElem?_eq_some_iff.1 hl4).1
      have hend := run_endRound (P := P) none hl4
      have e0 : ({ ({ L .ready with state := .busy } : Loop) with state := if (none : Option Code).isNone then .ready else .done, pending := none } : Loop) = L .ready := by rw [hL]; rfl
      rw [e0] at hend
      have hO2' : ∀ k, O2 k → k < w.heap.size ∨ w.heap.size + 2 ≤ k := fun k hk => by
        rcases hO2 k hk with h | h
        · exact hO1 k h
        · omega
      refine ⟨_, _, hend, rfl, _, ⟨O2, hI _ _ _ _ hi4 (SameOn.putObj _ ?_), World.putObj_heap_same hlt4, (World.putObj_heap_other (by omega)).trans hd4, hO2', rfl⟩, ⟨?_, fun k hk hn => ?_⟩, fun k hk => ?_⟩
      · rintro (h | h)
        · omega
        · have := hO2' _ h; omega
      · have := hk2.1; have := hk4.1; simp [World.putObj]; omega
      · have hkl : k ≠ w.heap.size + 1 := fun e => hn (.inr e)
        have hk1 : ¬ O1 k := fun h => hn (.inl h)
        rw [World.putObj_heap_other hkl, hk4.2 k (by have := hk2.1; omega) hk1, ho3 k hkl, hk2.2 k hk hk1]
      · rcases hk with h | h
        · rcases hO2 k h with h | h
          · exact .inl (.inl h)
          · exact .inr (by have := hk2.1; omega)
        · exact .inl (.inr h)
    | ret => exact hp.elim
    | exit id => exact hp.elim
    | goto t => exact hp.elim
    | panic ch => exact hp.elim
    | outgrown => exact hp.elim
  · rintro k (h | h)
    · have := hO₀ k h; omega
    · omega
  · rintro e W2 ⟨⟨v, rfl⟩, xs, O, hS, O1, hi, hl, hk, hO1, rfl⟩
    have hend := run_endLoop (P := P) hl (by rw [hL]; simp)
    have hp : (L .ready).pending = none := by rw [hL]
    rw [hp] at hend
    refine ⟨none, _, hend, ?_⟩
    exact hdone _ xs O1 _ (Nat.le_refl _) (fun k h e => by have := hO1 k h; omega) hS (hI _ _ _ _ hi (SameOn.putObj _ (by rintro (h | h); omega; have := hO1 _ h; omega))) ((World.putObj_heap_other (by omega)).trans hk)
/-! ### a drawn region inside a round, out of the walk that knows no round -/
theorem uponIn_of {o : Oper} {a : Act} {K : Act → World → Prop} {Q : Exit → Act → World → Prop} {l : Nat} {r : Result Next} (h : o.upon P a K Q r) : o.uponIn (Fence.wide.inRound l) 0 P a K Q r := by
  unfold Oper.upon at h
  split at h
  · exact h
  · exact h
  · exact h
  · exact ⟨fun h => (by cases h), CallsIn.inRound l (callsIn_wide.2 h)⟩
  · refine ⟨fun h => (by cases h), fun c cs _ => ?_⟩
    obtain ⟨v, w', r1, r2⟩ := h c cs
    exact ⟨v, w', r1, stepsIn_wide.2 r2⟩
  · exact h
  · exact h.elim
def noDefer (ops : Array Oper) : Bool := ops.all fun o => match o.op with | .defer _ => false | _ => true
theorem noDefer_spec {ops : Array Oper} (h : noDefer ops = true) {i : Nat} {o : Oper} (ho : ops[i]? = some o) (c : Call) : o.op ≠ Op.defer c := fun e => by
  obtain ⟨hi, rfl⟩ := Array.getElem?_eq_some_iff.1 ho
  have := (Array.all_eq_true.1 h) i hi
  rw [e] at this
  cases this
theorem wpAnyIn_of {md : Region.Mode} {ops : Array Oper} {Q : Exit → Act → World → Prop} {l : Nat} (hd : noDefer ops = true) (hQ : ¬ LetsOut Q) :
    ∀ (fuel : Nat) (listed : Array Bool) (a : Act) (w : World), wpAny P md ops Q fuel listed a w → wpAnyIn (Fence.wide.inRound l) 0 P md ops Q fuel listed a w
  | 0, _, _, _, h => h
  | fuel + 1, listed, a, w, h => ⟨h.1, fun i hi => by
      have h2 := h.2 i hi
      unfold wpOp at h2
      unfold wpOpIn
      cases ho : ops[i]? with
      | none =>
        simp only [ho] at h2 ⊢
        exact wpAnyIn_of hd hQ fuel _ a w h2
      | some o =>
        simp only [ho] at h2 ⊢
        split
        · rename_i hw
          rw [if_pos hw] at h2
          rcases h2 with h2 | h2
          · refine ⟨fun _ _ => trivial, ?_⟩
            rw [Oper.semAt_plain _ _ _ (noDefer_spec hd ho)]
            exact uponIn_of (Oper.wp_mono (fun a' w' h' => wpAnyIn_of hd hQ fuel _ a' w' h') h2)
          · exact absurd h2.2 hQ
        · rename_i hw
          rw [if_neg hw] at h2
          exact ⟨fun _ _ => trivial, wpAnyIn_of hd hQ fuel _ _ w h2⟩⟩
theorem startR {id : Nat} {ops : Array Oper} {Q : Exit → Act → World → Prop} {a : Act} {w : World} {l : Nat} (z : Nat) (S : World → Prop) (hd : noDefer ops = true) (hQ : ¬ LetsOut Q) (hm : P.follows .mixedOrders = true) (hS : S w.drew)
    (h : S w.drew → wpAnyE P .any ops Q S z ops.size (Array.replicate ops.size false) a w.drew) : (Code.region id ops true).wpIn (Fence.wide.inRound l) 0 P Q a w :=
  wpIn_region_any hm (wpAnyIn_of hd hQ _ _ _ _ (wpAny_of_E _ _ _ _ (h hS)))
theorem goesOn_shut {α : Type} {I : List α → (Nat → Prop) → World → Prop} {xs : List α} {O : Nat → Prop} {W : World} : ¬ LetsOut (goesOn I xs O W) := fun ⟨_, _, h⟩ => h.elim
end
end Go.Proofs.Ytooeohhkcemoiaa
/- Own text. The contract of the tally's method ascending, as an iterator. -/
namespace Go.Proofs.Ytooeohhkcemoiaa
open Go.RowKit Go.Shelf
set_option linter.unusedVariables false
/-- the cells of collected rows. -/
def flatT {w : World} {b : Nat} (ss : List (RowT w b)) : List Value := ss.flatMap encT
theorem flatT_len {w : World} {b : Nat} (ss : List (RowT w b)) : (flatT ss).length = ss.length * 2 := by
  induction ss with
  | nil => rfl
  | cons x xs ih => unfold flatT at *; rw [List.flatMap_cons, List.length_append, ih, List.length_cons]; simp [encT]; omega
theorem flatT_snoc {w : World} {b : Nat} (ss : List (RowT w b)) (x : RowT w b) : flatT (ss ++ [x]) = flatT ss ++ [x.1.1, .int .i64 x.1.2.n] := by
  unfold flatT; rw [List.flatMap_append]; simp [encT]
theorem flatT_at {w : World} {b : Nat} : ∀ {ss : List (RowT w b)} {i : Nat} {x : RowT w b}, ss[i]? = some x → (flatT ss)[i * 2]? = some x.1.1 ∧ (flatT ss)[i * 2 + 1]? = some (.int .i64 x.1.2.n)
  | y :: ss, 0, x, h => by
    obtain rfl : y = x := by simpa using h
    constructor <;> simp [flatT, encT]
  | y :: ss, i + 1, x, h => by
    have ih := flatT_at (ss := ss) (i := i) (x := x) (by simpa using h)
    have e : flatT (y :: ss) = y.1.1 :: .int .i64 y.1.2.n :: flatT ss := by unfold flatT; rw [List.flatMap_cons]; rfl
    rw [e, show (i + 1) * 2 = i * 2 + 1 + 1 by omega]
    simpa using ih
theorem infoCntT : (Try.prog.info? 53).map (fun i => (i.zero, i.size, i.bytes)) = some (some (.agg #[.slice none 0 0, .int .i64 0]), 2, 32) := by kernel_rfl
structure VT where
  a : Option Addr
  l : Nat
  c : Nat
  n : Int
theorem own_cells {w : World} {N e n g cap : Nat} {xs : List Value} (h : w.ownsRow N e 2 (.slice (some ⟨g, 0, none⟩) n cap) n xs) : g < w.heap.size ∧ N ≤ g ∧ (∀ i u, xs[i]? = some u → w.cell? ⟨g, i, none⟩ = some u) ∧ ∀ o, w.frozen? ⟨g, o, none⟩ = false := by
  obtain ⟨hl, h⟩ := h
  rcases h with ⟨h, _⟩ | ⟨g', cap', cur, e1, hN, hb, h1, h2, h3, h4⟩
  · cases h
  · obtain ⟨rfl, rfl⟩ : g = g' ∧ cap = cap' := by injection e1 with e2 _ e3; injection e2 with e4; injection e4 with e5; exact ⟨e5, e3⟩
    refine ⟨(Array.getElem?_eq_some_iff.1 hb).1, hN, fun i u hu => ?_, fun o => by simp [World.frozen?, hb]⟩
    rw [← h4, List.getElem?_take] at hu
    split at hu
    · simp only [World.cell?, hb]
      simpa using hu
    · cases hu
set_option maxHeartbeats 8000000 in
set_option maxRecDepth 100000 in
theorem asc_seq (b n : Nat) (W : Int) (cs : List C2) (w : World) (hT : TalIs w b n W cs) (hn : n ≤ 4194304) (hW : W ≤ 1048576) :
    SeqAll Try.prog 53 (.map (some b)) (fun x : RowT w b => #[.agg #[x.1.1, .int .i64 x.1.2.n]]) 4194304 (fun xs => OrderedOf W cs (xs.map fun x => x.1.2)) w := by
  intro l J U hU hJ hY O hJ0 hO
  have hlb := hT.lt
  obtain ⟨D, hown0, hTD⟩ := hT
  have hown : U.ownsMap Try.prog 9 Rc b n D := hown0.kept (row := none) ⟨hU.os, hU.tape, hU.output, hU.size, fun k hk _ => hU.block k hk⟩ (by simp)
  have hsz := hown.size_le
  obtain ⟨i0, hi, hz0, hz1, hz2⟩ := info_parts infoCntT
  have hbU : b < U.heap.size := Nat.lt_of_lt_of_le hlb hU.size
  refine callsIn_wide.2 ?_
  go_enter Try.func53, Try.ntmps53
  go_wp2_with (first
    | (at_len; refine wpList_len_own _ rfl _ 73 rfl 9 53 Try.underlying73 _ b n D rfl hown ?_)
    | (at_make; refine wpList_make_own _ rfl _ _ 35 rfl U.heap.size 53 i0 _ 2 Try.underlying35 hi hz0 hz1 .i64 .i64 _ (Maps.size D) rfl rfl rfl (by rw [hz2]; omega) (by unfold maxLen; omega) (Nat.le_refl _) ?_; intro w1 hrow1 hg1)
    | (at_range; refine wpList_range_own _ rfl _ 73 rfl 9 53 (Maps.string_keyed Try.underlying9) Try.underlying73 _ b n D rfl (hown.kept hg1 (by simp)) ?_; intro w2 hrg2 hg2 hs2))
  have hs1 := hg1.size
  have hb2 : Below U.heap.size U w2 := ((Below.refl _ U).grown hg1 (Nat.le_refl _) (fun k e => by cases e)).grown hg2 hs1 (fun k e => by cases e)
  have hrow2 := ownsRow_keep hrow1 (fun k hk => hg2.block k (ownsRow_lt hrow1 k hk).2 (by simp))
  have invK : ∀ key kl, keyOf Try.prog 9 key = some kl → ∃ x : ByteArray, key = Value.string x := fun key kl h => by
    obtain ⟨s, e, _⟩ := WideMaps.string_of_keyOf Try.underlying9 h
    exact ⟨s, e⟩
  have invV : ∀ v y, Rc v = some y → ∃ p : VT, v = .agg #[.slice p.a p.l p.c, .int .i64 p.n] := fun v y h => by
    obtain ⟨a, l, c, m, e, _⟩ := Rc_inv h
    exact ⟨⟨a, l, c, m⟩, e⟩
  obtain ⟨r, hr⟩ : ∃ r, w1.heap.size = r := ⟨_, rfl⟩
  rw [hr] at hrg2 ⊢
  have hrU : U.heap.size ≤ r := by omega
  clear hrow1 hg1 hg2 hs2 hs1 hown hown0 hr hsz
  go_loopw [4] (fun y wr => ∃ (left : Lit → Bool) (cnt : Nat) (ss : List (RowT w b)) (g cap : Nat), y = .slice (some ⟨g, 0, none⟩) ss.length cap ∧ wr.ranges Try.prog 9 Rc b r n D left cnt ∧ wr.ownsRow U.heap.size 53 2 (.slice (some ⟨g, 0, none⟩) ss.length cap) ss.length (flatT ss) ∧ Below U.heap.size U wr ∧ Coll D W cs left ss ∧ ss.length + cnt ≤ n) (fun _ wr => wr.rangeLeft b r)
  case atStart => exact ⟨_, _, [], _, _, rfl, hrg2, hrow2, hb2, Coll.start hTD, by have := hrg2.owns.size_le; simpa using this⟩
  case round =>
    obtain ⟨left, cnt, ss, g, cap, rfl, hrg, hrow, hb, hC, hcn⟩ := hrel
    clear hrg2 hrow2 hb2
    obtain ⟨hgl, hgN, hcell, hfrz⟩ := own_cells hrow
    have hzb := hb.size
    have hgb : b ≠ g := by omega
    have hgr : r ≠ g := by
      rintro rfl
      obtain ⟨o, ho, hw⟩ := hrg.iter_walk
      rcases hrow.2 with ⟨e, _⟩ | ⟨g', _, cur, e, _, hc, _⟩
      · cases e
      · injection e with e1; injection e1 with e2; injection e2 with e3
        rw [← e3, ho] at hc
        cases hc; cases hw
    have hUs := hb.size
    go_wp2_with (first
      | (at_next; refine wpList_next_ranges _ rfl _ rfl 9 (Maps.string_keyed Try.underlying9) Rc (fun s : ByteArray => Value.string s) (fun p : VT => Value.agg #[.slice p.a p.l p.c, .int .i64 p.n]) invK invV b r n D left cnt rfl hrg (fun hc0 hl0 => ?_) (fun kx p kl y w3 cnt3 hkey hlk hRv hat hrg3 hlt3 hg3 hs3 hen => ?_))
      | (at_builtin; refine wpList_append_own _ rfl _ _ 35 rfl U.heap.size 53 i0 _ 2 32 Try.underlying35 hi hz0 hz1 hz2 rfl (by decide) (.slice (some ⟨g, 0, none⟩) ss.length cap) ss.length (flatT ss) rfl ?hown ⟨wr.heap.size + 1, 0, none⟩ 1 1 [.slice p.a p.l p.c, .int .i64 p.n] rfl rfl ?c1 ?c2 ?c3 ?c4 ?c5 ?_))
    case hown =>
      refine ownsRow_keep hrow fun k hk => ?_
      have h1 := ownsRow_lt hrow k hk
      rw [Below.heap_alloc _ _ _ (by simp; omega), Below.heap_alloc _ _ _ (by omega)]
      exact hg3.block k h1.2 (by simp only [Value.ownBlock, Option.some.injEq] at hk; subst hk; simp only [ne_eq, Option.some.injEq]; exact fun e => hgr e.symm)
    case c1 =>
      intro j' u hu
      match j', hu with
      | 0, hu => simp at hu; subst hu; go_simp
      | 1, hu => simp at hu; subst hu; go_simp
    case c2 => intro u hu; simp at hu; rcases hu with rfl | rfl <;> rfl
    case c3 => unfold maxLen; omega
    case c4 => omega
    case c5 => simp; omega
    · have hbw : Below b w wr := (hU.mono (Nat.le_of_lt hlb)).trans (hb.mono (Nat.le_of_lt hbU))
      have hsort := sortT_any w wr b g cap hbw (by omega) hgl ss (by omega) (fun i x hx => ⟨hcell _ _ (flatT_at hx).1, hcell _ _ (flatT_at hx).2⟩) hfrz
      refine Calls.mono hsort ?_
      rintro e w5 ⟨rfl, xs, hp, hs, hxc, ho1, ho2, ho3, hsz5, hbl5⟩
      have hord := hC.done hl0 hp hs
      have hxl : Hid (xs.length = ss.length) := hp.length_eq
      have hJ5 : J [] O w5 := hJ _ _ _ _ hJ0 ⟨ho1.trans hb.os, ho2.trans hb.tape, ho3.trans hb.output, Nat.le_trans hUs hsz5, fun k hk _ => (hbl5 k (by omega) (by omega)).trans (hb.block k hk)⟩
      have hg5 : g < w5.heap.size := by omega
      have hOg : ¬ O g := fun h => by have := hO g h; omega
      clear hsort hC hrow hcell hfrz hrg hp hs hbl5 ho1 ho2 ho3 hbw hc0 hl0
      go_wp2_with fail
      refine (wpIn_wide (n := 0)).1 ?_
      gi_loopw [26] (fun i wr => ∃ (k : Nat) (O2 : Nat → Prop), k ≤ ss.length ∧ i = .int .i64 k ∧ J (xs.take k) O2 wr ∧ wr.heap[g]? = w5.heap[g]? ∧ ¬ O2 g ∧ g < wr.heap.size) (fun i _ => ss.length - (intOf i).toNat)
      case atStart => exact ⟨0, O, Nat.zero_le _, rfl, hJ5, rfl, hOg, hg5⟩
      case round =>
        obtain ⟨k, O2, hk, rfl, hJk, hgk, hO2, hgl2⟩ := hrel
        by_cases hlt : k < ss.length
        · have hkx : k < xs.length := by rw [hxl.out]; exact hlt
          obtain ⟨x, hx⟩ : ∃ x, xs[k]? = some x := ⟨xs[k], by simp⟩
          have HT : Hid (xs.take (k + 1) = xs.take k ++ [x]) := take_snoc hx
          obtain ⟨c0, c1⟩ := hxc k x hx
          replace c0 := (cell_blk hgk).trans c0
          replace c1 := (cell_blk hgk).trans c1
          obtain ⟨⟨u, rr, nn⟩, hxB⟩ := x
          obtain ⟨ua, uc, hu⟩ : ∃ a c, u = .slice a rr.length c := by obtain ⟨⟨_, ⟨a, c, e, _⟩, _⟩, _⟩ := hxB; exact ⟨a, c, e⟩
          dsimp only at c0 c1
          subst hu
          have hJ1 := hJ _ _ _ (wr.alloc (.cells #[.slice ua rr.length uc, .int .i64 nn] 53)) hJk (SameOn.of_below ((Below.refl _ _).alloc (Nat.le_refl _) _))
          obtain ⟨fn, tmps, assign, body, hy, hR⟩ := hY _ _ ⟨(.slice ua rr.length uc, ⟨rr, nn⟩), hxB⟩ _ hJ1 (by rw [List.length_take]; omega)
          dsimp only at hy
          clear hJk hJ5 hJ0 hx hxc
          gi_wp2
          refine ⟨rfl, hR.mono ?_⟩
          rintro e W3 ⟨rfl, O3, hJ3, hkept, hO3⟩
          have hs3 := hkept.1
          simp only [World.size_alloc] at hs3
          have hg3 : W3.heap[g]? = w5.heap[g]? := (hkept.2 g (by simp; omega) hO2).trans ((Below.heap_alloc wr _ g hgl2).trans hgk)
          have hO3g : ¬ O3 g := fun h => by
            rcases hO3 g h with h | h
            · exact hO2 h
            · simp at h; omega
          clear hkept hO3 hR hy hJ1
          gi_wp2
          go_roundw
          case rel => exact ⟨k + 1, O3, hlt, by simp, by rw [HT.out]; exact hJ3, hg3, hO3g, by omega⟩
          case measure => simp [intOf]; omega
        · obtain rfl : k = ss.length := by omega
          rw [← hxl.out, List.take_length] at hJk
          clear hJ5 hJ0 hxc hY
          gi_wp2
          go_end0
          exact ⟨⟨_, rfl⟩, xs, O2, hord, hJk⟩
    · intro v4 w4 hown4 hgrow4 _
      obtain ⟨x, hx1, hx2, hC3⟩ := Coll.next hTD hW hC hlk (a := p.a) (l := p.l) (c := p.c) (m := p.n) (fun z => by rw [hat z]; have e := (Rc_mk p.a p.l p.c p.n).symm.trans hRv; exact (congrArg Prod.fst (Option.some.inj e)).symm)
      obtain ⟨g4, cap4, rfl⟩ := ownsRow_succ hown4
      have hlen : (ss ++ [x]).length = ss.length + 1 := by simp
      have hfl : flatT ss ++ [.slice p.a p.l p.c, .int .i64 p.n] = flatT (ss ++ [x]) := by rw [flatT_snoc, hx1, hx2]
      rw [hfl] at hown4
      have hrg4 := (((hrg3.alloc (.cells #[.slice p.a p.l p.c, .int .i64 p.n] 53)).alloc (.cells #[.slice p.a p.l p.c, .int .i64 p.n] 53)).kept hgrow4 (by simp [Value.ownBlock]; exact hgb) (by simp [Value.ownBlock]; exact hgr))
      have hb3 : Below U.heap.size U w3 := hb.grown hg3 hzb (fun k e => by simp at e; omega)
      have hb4 : Below U.heap.size U w4 := ((hb3.alloc (by omega) _).alloc (by simp; omega) _).grown hgrow4 (by simp; omega) (fun k e => by simp [Value.ownBlock] at e; omega)
      have hmold := hrg.left_eq
      clear hrow hcell hfrz hC hrg hrg3 hg3 hb3 hgrow4 hat hRv hkey
      go_wp2_with fail
      refine ⟨⟨_, cnt3, ss ++ [x], g4, cap4, by rw [hlen], hrg4, by rw [hlen]; exact hown4, hb4, hC3, by rw [hlen]; omega⟩, ?_⟩
      rw [hrg4.left_eq, hmold]
      exact hlt3
end Go.Proofs.Ytooeohhkcemoiaa
/- Own text. The contract of the tally's method bag. -/
namespace Go.Proofs.Ytooeohhkcemoiaa
open Go.RowKit Go.Shelf
set_option linter.unusedVariables false
attribute [local go_sem] Oper.semAt_some
/-- what stands between two rounds: the bag that is made lies in block B + 1 (B: the result's), its rows in blocks of its own. -/
def BagI {w2 : World} {b : Nat} (w : World) (X : Int) (pre : List (RowT w2 b)) (O : Nat → Prop) (A : World) : Prop :=
  ∃ (y : Value) (us : List Value) (G : List (List Nat)), A.cell? ⟨w.heap.size + 1, 0, none⟩ = some (.int .i64 X) ∧ A.cell? ⟨w.heap.size + 1, 1, none⟩ = some y ∧ (∀ q, A.frozen? ⟨w.heap.size + 1, q, none⟩ = false) ∧ A.cell? ⟨w.heap.size, 0, none⟩ = some (.int .i64 0) ∧ A.cell? ⟨w.heap.size, 1, none⟩ = some (.slice none 0 0) ∧ (∀ q, A.frozen? ⟨w.heap.size, q, none⟩ = false) ∧
    BagOwn A (w.heap.size + 1 + 1) y (pre.map fun x => x.1.2) us G ∧ Below w.heap.size w A ∧ w.heap.size + 1 + 1 ≤ A.heap.size ∧ (∀ k, y.ownBlock = some k ∨ k ∈ G.flatten → O k) ∧ O (w.heap.size + 1) ∧ ∀ k, O k → k = w.heap.size + 1 ∨ w.heap.size + 1 + 1 ≤ k ∧ k < A.heap.size
theorem bagOwn_on {A B : World} {N : Nat} {y : Value} {cs : List C2} {us : List Value} {G : List (List Nat)} (h : BagOwn A N y cs us G) (hs : A.heap.size ≤ B.heap.size) (hb : ∀ k, y.ownBlock = some k ∨ k ∈ G.flatten → B.heap[k]? = A.heap[k]?) : BagOwn B N y cs us G := by
  refine ⟨ownsRow_keep h.own fun k hk => hb k (.inl hk), h.ul, h.gl, fun i x u g hx hu hg => (h.row i x u g hx hu hg).keep hs fun k hk => hb k (.inr ?_), h.free.keep fun k hk => hb k (.inr hk), h.out⟩
  exact List.mem_flatten.2 ⟨g, List.mem_of_getElem? hg, hk⟩
theorem BagI.on {w2 : World} {b : Nat} {w : World} {X : Int} {pre : List (RowT w2 b)} {O : Nat → Prop} {A B : World} (h : BagI w X pre O A) (hs : SameOn (fun k => k < w.heap.size + 2 ∨ O k) A B) : BagI w X pre O B := by
  obtain ⟨y, us, G, p0, p1, pf, r0, r1, rf, hB, hb, hz, hO, hOb, hO2⟩ := h
  have e1 : B.heap[w.heap.size + 1]? = A.heap[w.heap.size + 1]? := hs.block _ (by omega) (.inl (by omega))
  have e0 : B.heap[w.heap.size]? = A.heap[w.heap.size]? := hs.block _ (by omega) (.inl (by omega))
  refine ⟨y, us, G, (cell_blk e1).trans p0, (cell_blk e1).trans p1, fun q => (frozen_blk e1).trans (pf q), (cell_blk e0).trans r0, (cell_blk e0).trans r1, fun q => (frozen_blk e0).trans (rf q), bagOwn_on hB hs.size fun k hk => ?_, ⟨hs.os.trans hb.os, hs.tape.trans hb.tape, hs.output.trans hb.output, Nat.le_trans hb.size hs.size, fun k hk => (hs.block k (by omega) (.inl (by omega))).trans (hb.block k hk)⟩, Nat.le_trans hz hs.size, hO, hOb, fun k hk => ?_⟩
  · have h1 : k < A.heap.size := by
      rcases hk with hk | hk
      · exact (ownsRow_lt hB.own k hk).2
      · exact hB.lt k hk
    exact hs.block k h1 (.inr (hO k hk))
  · have := hO2 k hk
    have := hs.size
    omega
theorem bagI_start {W2 : World} {b : Nat} (w : World) (X : Int) : BagI (w2 := W2) (b := b) w X [] (fun k => k = w.heap.size + 1) ((w.alloc (.cells #[.int .i64 0, .slice none 0 0] 37)).alloc (.cells #[.int .i64 X, .slice none 0 0] 37)) := by
  refine ⟨.slice none 0 0, [], [], by go_simp, by go_simp, fun q => by go_simp, by go_simp, by go_simp, fun q => by go_simp, BagOwn.nil _ _, ((Below.refl _ _).alloc (Nat.le_refl _) _).alloc (by simp) _, by simp, fun k hk => ?_, rfl, fun k hk => .inl hk⟩
  rcases hk with hk | hk
  · cases hk
  · cases hk
set_option maxHeartbeats 8000000 in
set_option maxRecDepth 100000 in
theorem bag_any (b n : Nat) (W X : Int) (cs : List C2) (w : World) (hT : TalIs w b n W cs) (hn : n ≤ 4194304) (hW : W ≤ 1048576) :
    Calls Try.prog 45 #[.map (some b), .int .i64 X] w fun e w' => (∃ ds u us G, e = .returned (.agg #[.int .i64 X, u]) ∧ OrderedOf W cs ds ∧ BagOwn w' w.heap.size u ds us G) ∧ Below w.heap.size w w' := by
  have hlb := hT.lt
  refine (callsIn_wide (n := 0)).1 ?_
  refine callsIn_of_wp_marks Try.func45 rfl trivial ?_ rfl
  simp only [Try.ntmps45, List.size_toArray, List.length_cons, List.length_nil, Nat.reduceAdd, Nat.reduceSub, Array.replicate_succ, Array.replicate_zero, List.push_toArray, List.append_toArray, List.nil_append, List.cons_append]
  gi_wp2
  obtain ⟨w2, hw2⟩ : ∃ w2, (w.alloc (.cells #[.int .i64 0, .slice none 0 0] 37)).alloc (.cells #[.int .i64 X, .slice none 0 0] 37) = w2 := ⟨_, rfl⟩
  have hs2 : w2.heap.size = w.heap.size + 2 := by rw [← hw2]; simp
  have hbw2 : Below w.heap.size w w2 := by rw [← hw2]; exact ((Below.refl _ _).alloc (Nat.le_refl _) _).alloc (by simp) _
  have hI0 : BagI (w2 := w2) (b := b) w X [] (fun k => k = w.heap.size + 1) w2 := by
    have h := bagI_start (W2 := w2) (b := b) w X
    rw [hw2] at h
    exact h
  have hT2 := hT.keep hbw2
  rw [hw2]
  clear hw2 hT
  refine rangeBound (gf := 53) (recv := .map (some b)) rfl (enters_of Try.func53 (by kernel_rfl) rfl) (asc_seq b n W cs w2 hT2 hn hW) (fun _ => rfl) (BagI w X) (fun pre O A B h hs => h.on (by rw [hs2] at hs; exact hs)) (fun k => k = w.heap.size + 1) (fun k hk => by omega) hI0
    (fun x O a' A => ∃ Bx, w.heap.size + 2 + 2 ≤ Bx ∧ Bx < A.heap.size ∧ ¬ O Bx ∧ A.cell? ⟨Bx, 0, none⟩ = some x.1.1 ∧ A.cell? ⟨Bx, 1, none⟩ = some (.int .i64 x.1.2.n) ∧ a' = { tmps := #[.map (some b), .int .i64 X, undef, undef, .pointer (some ⟨w.heap.size, 0, none⟩), .pointer (some ⟨w.heap.size + 1, 0, none⟩), .pointer (some ⟨Bx, 0, none⟩), .int .i64 X, .agg #[.int .i64 X, .slice none 0 0], .map (some b), .func (.func 53) #[.map (some b)] #[], .agg #[x.1.1, .int .i64 x.1.2.n], undef, undef, undef, undef, undef, undef, undef, undef], defers := [] }) ?hAx ?assign ?body ?done
  case hAx =>
    rintro x O a' A o ⟨Bx, h1, h2, h3, h4, h5, h6⟩
    have hne : Bx ≠ w2.heap.size + 1 := by omega
    exact ⟨Bx, h1, by simpa [World.putObj] using h2, h3, (cell_blk (World.putObj_heap_other hne)).trans h4, (cell_blk (World.putObj_heap_other hne)).trans h5, h6⟩
  case assign =>
    rintro l pre O x A K hi hz hK
    obtain ⟨⟨u, rr, nn⟩, hxB⟩ := x
    obtain ⟨ua, uc, hu⟩ : ∃ a c, u = .slice a rr.length c := by obtain ⟨⟨_, ⟨a, c, e, _⟩, _⟩, _⟩ := hxB; exact ⟨a, c, e⟩
    subst hu
    have hOA : ¬ O A.heap.size := fun h => by obtain ⟨_, _, _, _, _, _, _, _, _, _, _, _, _, _, hO2⟩ := hi; have := hO2 _ h; omega
    have hkA : KeptBut O A (A.alloc (.cells #[.slice ua rr.length uc, .int .i64 nn] 53)) := ⟨by simp, fun k hk _ => Below.heap_alloc A _ k hk⟩
    have hiA : BagI w X pre O (A.alloc (.cells #[.slice ua rr.length uc, .int .i64 nn] 53)) := hi.on (SameOn.of_below ((Below.refl _ _).alloc (Nat.le_refl _) _))
    clear hi
    gi_wp2
    refine hK _ _ hkA hiA ⟨A.heap.size, by omega, by simp, hOA, by go_simp, by go_simp, rfl⟩
  case body =>
    rintro l pre O x a' wr hi ⟨Bx, hx1, hx2, hx3, hx4, hx5, rfl⟩ hz hNm
    obtain ⟨y, us, G, p0, p1, pf, r0, r1, rf, hB, hb, hzb, hO, hOb, hO2⟩ := hi
    obtain ⟨⟨u, x⟩, ⟨g0, hR0, hg0⟩, hxn⟩ := x
    dsimp only at hR0 hxn hx4 hx5
    obtain ⟨a0, n0, rfl⟩ := hR0.shape
    have hbb : Below b w2 wr := ⟨hb.os.trans hbw2.os.symm, hb.tape.trans hbw2.tape.symm, hb.output.trans hbw2.output.symm, by omega, fun k hk => (hb.block k (by omega)).trans (hbw2.block k (by omega)).symm⟩
    have hR : RowF wr (.slice a0 x.r.length n0) x.r g0 := hR0.keep hbb.size fun k hk => hbb.block k (hg0 k hk)
    have c0 := hx4
    have c1 := hx5
    have hvl := ownsRow_lt hB.own
    have hv2 : y.ownBlock ≠ some (w.heap.size + 1) := fun e => by have := (hvl _ e).1; omega
    have hvr : y.ownBlock ≠ some w.heap.size := fun e => by have := (hvl _ e).1; omega
    have hvT : y.ownBlock ≠ some Bx := fun e => hx3 (hO Bx (.inl e))
    have hGl := hB.lt
    have hpl : (pre.map fun x => x.1.2).length = pre.length := by simp
    have HM : Hid ((pre ++ [(⟨(.slice a0 x.r.length n0, x), ⟨g0, hR0, hg0⟩, hxn⟩ : RowT w2 b)]).map (fun x => x.1.2) = (pre.map fun x => x.1.2) ++ [x]) := by simp [Hid]
    obtain ⟨i0, hi, hz0, hz1, hz2⟩ := info_parts infoCntT
    generalize hct : pre.map (fun x => x.1.2) = ct at *
    have hml : ct.length + 1 ≤ maxLen := by unfold maxLen; omega
    have hby : (ct.length + 1) * 32 ≤ 140737488355328 := by omega
    have hUf : ∀ k, O k → k = w.heap.size + 1 ∨ w.heap.size + 1 + 1 ≤ k ∧ k < wr.heap.size := hO2
    clear hx4 hx5 hI0 hT2 hpl
    gi_wp2_with fail
    refine startR 7 (fun w' => w'.cell? ⟨w.heap.size + 1, 1, none⟩ = some y ∧ w'.cell? ⟨Bx, 0, none⟩ = some (.slice a0 x.r.length n0) ∧ w'.cell? ⟨Bx, 1, none⟩ = some (.int .i64 x.n)) (by kernel_rfl) (fun h => by obtain ⟨_, _, h⟩ := h; exact h.elim) (by kernel_rfl) ?_ (fun hHeld => ?_)
    · (try dsimp only)
      exact ⟨p1, c0, c1⟩
    refine takeE (i := 0) (d := 12) (v := ?_) rfl rfl (by kernel_rfl) (by kernel_rfl) (by kernel_rfl) (by kernel_rfl) (fun _ _ _ h => h) (by rfl) (by assumption) ?_ ?_
    rotate_left
    · intro w' hSw; (try dsimp only at hSw); go_simp; try exact rfl
    try simp only [List.setIfInBounds_toArray, List.set_cons_zero, List.set_cons_succ]
    refine takeE (i := 1) (d := 13) (v := ?_) rfl rfl (by kernel_rfl) (by kernel_rfl) (by kernel_rfl) (by kernel_rfl) (fun _ _ _ h => h) (by rfl) (by assumption) ?_ ?_
    rotate_left
    · intro w' hSw; (try dsimp only at hSw); go_simp; try exact rfl
    try simp only [List.setIfInBounds_toArray, List.set_cons_zero, List.set_cons_succ]
    refine takeE (i := 2) (d := 14) (v := ?_) rfl rfl (by kernel_rfl) (by kernel_rfl) (by kernel_rfl) (by kernel_rfl) (fun _ _ _ h => h) (by rfl) (by assumption) ?_ ?_
    rotate_left
    · intro w' hSw; (try dsimp only at hSw); go_simp; try exact rfl
    try simp only [List.setIfInBounds_toArray, List.set_cons_zero, List.set_cons_succ]
    refine oneE (i := 3) (by kernel_rfl) rfl (fun K hK => ?_)
    go_simp
    go_at_call 54
    refine Calls.mono (copyCounted_any (.slice a0 x.r.length n0) x.r g0 x.n _ (hR.below ?hbb) hxn) ?_
    case hbb => exact (Below.refl _ wr).drew
    rintro e wv ⟨⟨u2, g2, rfl, hR2, hO2⟩, hb2⟩
    obtain ⟨a2, n2, rfl⟩ := hR2.shape
    have hzw2 := hb2.size
    (try simp at hzw2)
    have bel2 : Below wr.heap.size wr wv := (Below.refl _ wr).drew.trans hb2
    have hB2 := hB.below bel2
    have pf2 : ∀ q, wv.frozen? ⟨w.heap.size + 1, q, none⟩ = false := fun q => ((bcell bel2).2 _ q (by omega)).trans (pf q)
    have rf2 : ∀ q, wv.frozen? ⟨w.heap.size, q, none⟩ = false := fun q => ((bcell bel2).2 _ q (by omega)).trans (rf q)
    have p02 := ((bcell bel2).1 (w.heap.size + 1) 0 (by omega)).trans p0
    have p12 := ((bcell bel2).1 (w.heap.size + 1) 1 (by omega)).trans p1
    have r02 := ((bcell bel2).1 (w.heap.size) 0 (by omega)).trans r0
    have r12 := ((bcell bel2).1 (w.heap.size) 1 (by omega)).trans r1
    have q0 : wv.cell? ⟨Bx, 0, none⟩ = some (.slice a0 x.r.length n0) := ((bcell bel2).1 Bx 0 (by omega)).trans c0
    have q1 : wv.cell? ⟨Bx, 1, none⟩ = some (.int .i64 x.n) := ((bcell bel2).1 Bx 1 (by omega)).trans c1
    try go_wp2_with fail
    refine hK.out _ _ ?_ (fun hHeld3 => ?_)
    · intro _
      (try dsimp only)
      exact ⟨p12, q0, q1⟩
    clear hK
    replace hHeld3 := hHeld3 (by decide)
    try simp only [List.setIfInBounds_toArray, List.set_cons_zero, List.set_cons_succ]
    refine oneE (i := 4) (by kernel_rfl) rfl (fun K hK => ?_)
    go_simp
    refine hK.out _ _ ?_ (fun hHeld4 => ?_)
    · intro _
      (try dsimp only)
      exact ⟨(cell_blk (Below.heap_alloc wv _ _ (by omega))).trans p12, (cell_blk (Below.heap_alloc wv _ _ (by omega))).trans q0, (cell_blk (Below.heap_alloc wv _ _ (by omega))).trans q1⟩
    clear hK
    replace hHeld4 := hHeld4 (by decide)
    try simp only [List.setIfInBounds_toArray, List.set_cons_zero, List.set_cons_succ]
    refine oneE (i := 5) (by kernel_rfl) rfl (fun K hK => ?_)
    refine step_append_lies _ (by rfl) _ _ _ (by rfl) (w.heap.size + 1 + 1) 53 i0 _ 2 32 Try.underlying35 hi hz0 hz1 hz2 rfl (by omega) y ct.length (cc us ct) (by rfl) (hB2.own.alloc _) ⟨wv.heap.size, 0, none⟩ 1 1 [.slice a2 x.r.length n2, .int .i64 x.n] (by rfl) (by rfl) (World.news_of_block (cs := #[.slice a2 x.r.length n2, .int .i64 x.n]) (t := 53) (fr := (0, 0)) (heap_alloc_new wv _)) (by simp [Value.oneCell']) (by omega) hml hby (by simp; omega) (wv.heap.size + 1) (by simp) ?_
    intro gg cap w3 hown3 hgrow hat hlt3
    have hz3 := hgrow.size
    simp at hz3
    have far : ∀ b q, b < wv.heap.size → y.ownBlock ≠ some b → w3.cell? ⟨b, q, none⟩ = wv.cell? ⟨b, q, none⟩ := fun b q hb hne => (hgrow.cell_far _ (by simp; omega) (Ne.symm hne)).trans (cell_blk (Below.heap_alloc _ _ _ hb))
    have farf : ∀ b q, b < wv.heap.size → y.ownBlock ≠ some b → w3.frozen? ⟨b, q, none⟩ = wv.frozen? ⟨b, q, none⟩ := fun b q hb hne => (hgrow.frozen_far _ (by simp; omega) (Ne.symm hne)).trans (frozen_blk (Below.heap_alloc _ _ _ hb))
    have pf3 : ∀ q, w3.frozen? ⟨w.heap.size + 1, q, none⟩ = false := fun q => (farf _ q (by omega) hv2).trans (pf2 q)
    have rf3 : ∀ q, w3.frozen? ⟨w.heap.size, q, none⟩ = false := fun q => (farf _ q (by omega) hvr).trans (rf2 q)
    have p03 := (far (w.heap.size + 1) 0 (by omega) hv2).trans p02
    have p13 := (far (w.heap.size + 1) 1 (by omega) hv2).trans p12
    have r03 := (far (w.heap.size) 0 (by omega) hvr).trans r02
    have r13 := (far (w.heap.size) 1 (by omega) hvr).trans r12
    have hBp := BagOwn.push (hB2.below ((Below.refl _ _).alloc (Nat.le_refl _) (.cells #[.slice a2 x.r.length n2, .int .i64 x.n] 53))) (hR2.below ((Below.refl _ _).alloc (Nat.le_refl _) _)) ⟨hO2.1, fun b hb => by have := hO2.2.1 b hb; simp at this; omega, fun b hb q => (frozen_blk (Below.heap_alloc _ _ _ (hR2.lt b hb))).trans (hO2.2.2 b hb q)⟩ (fun b hb hb' => by have := hO2.2.1 b hb'; have := hGl b hb; simp at *; omega) (fun b hb hb' => by have := hO2.2.1 b hb'; have := (ownsRow_lt hB.own b hb).2; simp at *; omega) hown3 hgrow (fun b hb => by simp [Value.ownBlock] at hb; subst hb; rcases hat with h | h; exact .inl h; exact .inr (by simp; omega))
    have far1 := far Bx 0 (by omega) hvT
    have far2 := far Bx 1 (by omega) hvT
    have bel3 : Below w.heap.size w w3 := Below.grown (hb.trans (bel2.mono hb.size) |>.alloc (by omega) _) hgrow (by simp; omega) (fun b hb => by have := (ownsRow_lt hB.own b hb).1; omega)
    refine hK.out _ _ ?_ (fun hHeld5 => ?_)
    · intro _
      (try dsimp only)
      exact ⟨p13, far1.trans q0, far2.trans q1⟩
    clear hK
    replace hHeld5 := hHeld5 (by decide)
    try simp only [List.setIfInBounds_toArray, List.set_cons_zero, List.set_cons_succ]
    refine takeE (i := 6) (d := 18) (v := ?_) rfl rfl (by kernel_rfl) (by kernel_rfl) (by kernel_rfl) (by kernel_rfl) (fun _ _ _ h => h) (by rfl) (by assumption) ?_ ?_
    rotate_left
    · intro w' hSw; (try dsimp only at hSw); go_simp; try exact rfl
    try simp only [List.setIfInBounds_toArray, List.set_cons_zero, List.set_cons_succ]
    refine oneE (i := 7) (by kernel_rfl) rfl (fun K hK => ?_)
    go_simp
    refine hK.out _ _ ?_ (fun hHeld7 => ?_)
    · exact fun h => absurd rfl h
    clear hK hHeld7
    try simp only [List.setIfInBounds_toArray, List.set_cons_zero, List.set_cons_succ]
    refine doneE (by kernel_rfl) ?_ _
    have P0 : (w3.setCell ⟨w.heap.size + 1, 1, none⟩ (.slice (some ⟨gg, 0, none⟩) (ct.length + 1) cap)).cell? ⟨w.heap.size + 1, 0, none⟩ = some (.int .i64 X) := (World.cell?_setCell_other _ _ _ _ (by simp)).trans p03
    have P1 : (w3.setCell ⟨w.heap.size + 1, 1, none⟩ (.slice (some ⟨gg, 0, none⟩) (ct.length + 1) cap)).cell? ⟨w.heap.size + 1, 1, none⟩ = some (.slice (some ⟨gg, 0, none⟩) (ct.length + 1) cap) := World.cell?_setCell_same _ _ _ p13
    have PF : ∀ q, (w3.setCell ⟨w.heap.size + 1, 1, none⟩ (.slice (some ⟨gg, 0, none⟩) (ct.length + 1) cap)).frozen? ⟨w.heap.size + 1, q, none⟩ = false := fun q => by simpa using pf3 q
    have R0 : (w3.setCell ⟨w.heap.size + 1, 1, none⟩ (.slice (some ⟨gg, 0, none⟩) (ct.length + 1) cap)).cell? ⟨w.heap.size, 0, none⟩ = some (.int .i64 0) := (World.cell?_setCell_other _ _ _ _ (by simp)).trans r03
    have R1 : (w3.setCell ⟨w.heap.size + 1, 1, none⟩ (.slice (some ⟨gg, 0, none⟩) (ct.length + 1) cap)).cell? ⟨w.heap.size, 1, none⟩ = some (.slice none 0 0) := (World.cell?_setCell_other _ _ _ _ (by simp)).trans r13
    have RF : ∀ q, (w3.setCell ⟨w.heap.size + 1, 1, none⟩ (.slice (some ⟨gg, 0, none⟩) (ct.length + 1) cap)).frozen? ⟨w.heap.size, q, none⟩ = false := fun q => by simpa using rf3 q
    have hBs := hBp.keep (w' := w3.setCell ⟨w.heap.size + 1, 1, none⟩ (.slice (some ⟨gg, 0, none⟩) (ct.length + 1) cap)) (by simp) (fun b hb _ => Below.heap_setCell _ _ _ _ (by simp; omega))
    have belS : Below w.heap.size w (w3.setCell ⟨w.heap.size + 1, 1, none⟩ (.slice (some ⟨gg, 0, none⟩) (ct.length + 1) cap)) := bel3.setCell (by first | (simp; done) | (simp; omega)) _
    have hzS : w.heap.size + 1 + 1 ≤ (w3.setCell ⟨w.heap.size + 1, 1, none⟩ (.slice (some ⟨gg, 0, none⟩) (ct.length + 1) cap)).heap.size := by simp; omega
    have hgl := ownsRow_lt hBs.own
    have hfl := hBs.lt
    have hfr := hBs.free.2.1
    refine ⟨fun k => k = w.heap.size + 1 ∨ k = gg ∨ k ∈ (G ++ [g2]).flatten, ⟨_, _, _, P0, P1, PF, R0, R1, RF, by rw [HM.out]; exact hBs, belS, hzS, fun k hk => ?_, .inl rfl, fun k hk => ?_⟩, ⟨?_, fun k hk hn => ?_⟩, fun k hk => ?_⟩
    · rcases hk with hk | hk
      · simp only [Value.ownBlock, Option.some.injEq] at hk
        exact .inr (.inl hk.symm)
      · exact .inr (.inr hk)
    · rcases hk with hk | hk | hk
      · exact .inl hk
      · exact .inr (hk ▸ hgl gg rfl)
      · exact .inr ⟨hfr k hk, hfl k hk⟩
    · have := bel2.size
      simp
      omega
    · have h1 : k ≠ w.heap.size + 1 := fun e => hn (e ▸ hOb)
      have h2 : some k ≠ y.ownBlock := fun e => hn (hO k (.inl e.symm))
      rw [Below.heap_setCell _ _ _ _ (by simpa using h1), hgrow.block k (by simp; omega) h2, Below.heap_alloc _ _ _ (by omega), bel2.block k hk]
    · rcases hk with hk | hk | hk
      · exact .inl (hk ▸ hOb)
      · rcases hat with h | h
        · exact .inl (hk ▸ hO gg (.inl h))
        · exact .inr (by omega)
      · rw [List.flatten_append, List.mem_append] at hk
        rcases hk with hk | hk
        · exact .inl (hO k (.inr hk))
        · exact .inr (by have := hO2.2.1 k (by simpa using hk); simpa using this)
  case done =>
    rintro D xs O A hD hDO hord ⟨y, us, G, p0, p1, pf, r0, r1, rf, hB, hb, hzA, hO, hOb, hO2⟩ hK
    obtain ⟨ay, cy, rfl⟩ := hB.shape
    gi_wp2
    obtain ⟨A2, hA2⟩ : ∃ A2, (A.setCell ⟨w.heap.size, 0, none⟩ (.int .i64 X)).setCell ⟨w.heap.size, 1, none⟩ (.slice ay (xs.map fun x => x.1.2).length cy) = A2 := ⟨_, rfl⟩
    have hs3 : A2.heap.size = A.heap.size := by rw [← hA2]; simp
    have hfar : ∀ k, k ≠ w.heap.size → A2.heap[k]? = A.heap[k]? := fun k hk => by
      rw [← hA2, Below.heap_setCell _ _ _ _ (by simpa using hk), Below.heap_setCell _ _ _ _ (by simpa using hk)]
    have q0 : A2.cell? ⟨w.heap.size, 0, none⟩ = some (.int .i64 X) := by rw [← hA2]; exact (World.cell?_setCell_other _ _ _ _ (by simp)).trans (World.cell?_setCell_same _ _ _ r0)
    have q1 : A2.cell? ⟨w.heap.size, 1, none⟩ = some (.slice ay (xs.map fun x => x.1.2).length cy) := by rw [← hA2]; exact World.cell?_setCell_same _ _ _ ((World.cell?_setCell_other _ _ _ _ (by simp)).trans r1)
    have hb2 : Below w.heap.size w A2 := by rw [← hA2]; exact (hb.setCell (by simp) _).setCell (by simp) _
    have hK2 : A2.heap[D]? = some (.deferred (some [])) := (hfar D (by omega)).trans hK
    have hlen : (xs.map fun x => x.1.2).length = xs.length := by simp
    rw [hlen] at hA2 q1
    rw [hA2]
    refine ⟨by simp, .inl ⟨_, _, rfl, run_takeDeferred hK2, ?_⟩⟩
    have q0' : (A2.putObj D (.deferred none)).cell? ⟨w.heap.size, 0, none⟩ = some (.int .i64 X) := (cell_blk (World.putObj_heap_other (by omega))).trans q0
    have q1' : (A2.putObj D (.deferred none)).cell? ⟨w.heap.size, 1, none⟩ = some (.slice ay xs.length cy) := (cell_blk (World.putObj_heap_other (by omega))).trans q1
    have hB3 : BagOwn (A2.putObj D (.deferred none)) (w.heap.size + 1 + 1) (.slice ay (xs.map fun x => x.1.2).length cy) (xs.map fun x => x.1.2) us G := bagOwn_on hB (by simp [World.putObj]; omega) fun k hk => by
      have h1 := hDO k (hO k hk)
      have h2 : w.heap.size + 1 + 1 ≤ k := by
        rcases hk with hk | hk
        · exact (ownsRow_lt hB.own k hk).1
        · exact hB.free.2.1 k hk
      rw [World.putObj_heap_other h1, hfar k (by omega)]
    have hb3 : Below w.heap.size w (A2.putObj D (.deferred none)) := hb2.trans (belowK_b (w := w2) (by omega) A2 D _ _ hD hK2 rfl rfl)
    rw [hlen] at hB3
    refine ⟨.agg #[.int .i64 X, .slice ay xs.length cy], ?_, ⟨⟨_, _, us, G, rfl, hord, hB3.weak (by omega)⟩, hb3⟩⟩
    clear hB hB3 hord hI0 hT2
    simp [results, Try.results45, go_sem, q0', q1']
end Go.Proofs.Ytooeohhkcemoiaa
/- Own text. The contract of impl.together at two bags of one width. -/
namespace Go.Proofs.Ytooeohhkcemoiaa
open Go.RowKit Go.Shelf
set_option linter.unusedVariables false
set_option maxHeartbeats 8000000 in
set_option maxRecDepth 100000 in
theorem together_any (W : Int) (va vb : Value) (cs ds : List C2) (F F2 : List Nat) (w : World) (B : Nat) (c0 : w.cell? ⟨B, 0, none⟩ = some (.int .i64 W)) (c1 : w.cell? ⟨B, 1, none⟩ = some va) (c2 : w.cell? ⟨B, 2, none⟩ = some (.int .i64 W)) (c3 : w.cell? ⟨B, 3, none⟩ = some vb) (hB : B < w.heap.size)
    (ha : RowsF w va cs F) (hb : RowsF w vb ds F2) (hn : wtb cs ≤ 1048576) (hn2 : wtb ds ≤ 1048576) (hW : W ≤ 12) (hgc : ∀ c ∈ cs, GoodRow W c.r) (hgd : ∀ c ∈ ds, GoodRow W c.r) (hS : SmallC (cs ++ ds)) :
    Calls Try.prog 32 #[.slice (some ⟨B, 0, none⟩) 2 2] w fun e w' => (∃ xs u us G, e = .returned (.agg #[.int .i64 W, u]) ∧ OrderedOf W (cs ++ ds) xs ∧ BagOwn w' w.heap.size u xs us G) ∧ Below w.heap.size w w' := by
  have hmm := @run_makeMap Try.prog
  have hSc : SmallC ([] ++ cs) := by refine ⟨fun c hc => hS.1 c (by simp at hc; simp [hc]), ?_⟩; have := hS.2; simp at this ⊢; omega
  obtain ⟨aa, ca, rfl⟩ : ∃ a c, va = .slice a cs.length c := by obtain ⟨a, c, _, e, _⟩ := ha; exact ⟨a, c, e⟩
  obtain ⟨ab, cb, rfl⟩ : ∃ a c, vb = .slice a ds.length c := by obtain ⟨a, c, _, e, _⟩ := hb; exact ⟨a, c, e⟩
  have hlen := hS.2
  rw [List.length_append] at hlen
  have hFa : ∀ x ∈ F, x < w.heap.size + 1 := fun x hx => by have := ha.lt x hx; omega
  have hFb : ∀ x ∈ F2, x < w.heap.size + 1 := fun x hx => by have := hb.lt x hx; omega
  go_enter Try.func32, Try.ntmps32
  go_wp2
  go_loopw [9] (fun i wr => ∃ k : Nat, k ≤ 2 ∧ i = .int .i64 k ∧ TalIs wr (w.heap.size + 1) (if k = 0 then 0 else if k = 1 then cs.length else cs.length + ds.length) W (if k = 0 then [] else if k = 1 then cs else cs ++ ds) ∧ Below (w.heap.size + 1) (w.alloc (.cells #[.int .i64 0, .slice none 0 0] 37)) wr) (fun i _ => 2 - (intOf i).toNat)
  case atStart =>
    refine ⟨0, by omega, rfl, ⟨.map [], ?_, TallyOf.start _ _ _⟩, ?_⟩
    · have := World.ownsMap_made (w.alloc (.cells #[.int .i64 0, .slice none 0 0] 37)) Try.prog 9 Rc
      simpa using this
    · exact (Below.refl _ _).alloc (by simp) _
  case round =>
    obtain ⟨k, hk, rfl, hT, hbr⟩ := hrel
    have hzr := hbr.size
    simp only [World.size_alloc] at hzr
    have hlt := hT.lt
    have hbw : Below w.heap.size w wr := ((Below.refl _ w).alloc (Nat.le_refl _) _).trans (hbr.mono (by omega))
    have d0 := (hbw.cell (p := ⟨B, 0, none⟩) hB).trans c0
    have d1 := (hbw.cell (p := ⟨B, 1, none⟩) hB).trans c1
    have d2 := (hbw.cell (p := ⟨B, 2, none⟩) hB).trans c2
    have d3 := (hbw.cell (p := ⟨B, 3, none⟩) hB).trans c3
    have hBr : B < wr.heap.size := by omega
    rcases (by omega : k = 0 ∨ k = 1 ∨ k = 2) with rfl | rfl | rfl
    · simp only [if_true] at hT
      have hb0 : Below wr.heap.size wr (wr.alloc (.cells #[.int .i64 W, .slice aa cs.length ca] 37)) := (Below.refl _ _).alloc (Nat.le_refl _) _
      have hcall := addAll_any (w.heap.size + 1) 0 W W [] cs (.slice aa cs.length ca) F _ (hT.keep hb0) ((ha.below hbw).below hb0) hFa hgc hn hSc (by omega)
      rw [List.nil_append, Nat.zero_add] at hcall
      clear hT ha hb
      go_wp2_with (go_at_call 44; refine Calls.mono hcall ?_; rintro q w2 ⟨rfl, hT2, hb2⟩)
      refine ⟨⟨1, by omega, by simp, by simpa using hT2, hbr.trans ((hb0.mono (Nat.le_of_lt hlt)).trans hb2)⟩, by simp [intOf]⟩
    · simp only [if_true, Nat.one_ne_zero, if_false] at hT
      have hb0 : Below wr.heap.size wr (wr.alloc (.cells #[.int .i64 W, .slice ab ds.length cb] 37)) := (Below.refl _ _).alloc (Nat.le_refl _) _
      have hcall := addAll_any (w.heap.size + 1) cs.length W W cs ds (.slice ab ds.length cb) F2 _ (hT.keep hb0) ((hb.below hbw).below hb0) hFb hgd hn2 hS (by omega)
      clear hT ha hb
      go_wp2_with (go_at_call 44; refine Calls.mono hcall ?_; rintro q w2 ⟨rfl, hT2, hb2⟩)
      refine ⟨⟨2, by omega, by simp, by simpa using hT2, hbr.trans ((hb0.mono (Nat.le_of_lt hlt)).trans hb2)⟩, by simp [intOf]⟩
    · have hT' : TalIs wr (w.heap.size + 1) (cs.length + ds.length) W (cs ++ ds) := by simpa using hT
      have hcall := bag_any (w.heap.size + 1) (cs.length + ds.length) W W (cs ++ ds) wr hT' (by omega) (by omega)
      have r0 : wr.cell? ⟨w.heap.size, 0, none⟩ = some (.int .i64 0) := (hbr.cell (p := ⟨w.heap.size, 0, none⟩) (by simp)).trans (by go_simp)
      have r1 : wr.cell? ⟨w.heap.size, 1, none⟩ = some (.slice none 0 0) := (hbr.cell (p := ⟨w.heap.size, 1, none⟩) (by simp)).trans (by go_simp)
      have rf : ∀ q, wr.frozen? ⟨w.heap.size, q, none⟩ = false := fun q => (frozen_blk (hbr.block w.heap.size (by simp))).trans (by go_simp)
      clear hT hT' ha hb
      go_wp2_with fail
      refine Calls.mono hcall ?_
      rintro q w2 ⟨⟨xs, u, us, G, rfl, hord, hO⟩, hb2⟩
      obtain ⟨au, cu, rfl⟩ := hO.shape
      have hz2 := hb2.size
      have s0 := (hb2.cell (p := ⟨w.heap.size, 0, none⟩) (show w.heap.size < wr.heap.size by omega)).trans r0
      have s1 := (hb2.cell (p := ⟨w.heap.size, 1, none⟩) (show w.heap.size < wr.heap.size by omega)).trans r1
      have sf : ∀ q, w2.frozen? ⟨w.heap.size, q, none⟩ = false := fun q => (frozen_blk (hb2.block w.heap.size (by omega))).trans (rf q)
      have hb3 : Below w.heap.size w w2 := hbw.trans (hb2.mono (by omega))
      clear r0 r1 rf hb2 hcall d0 d1 d2 d3
      go_wp2_with fail
      refine bodyPost_ret (v := .agg #[.int .i64 W, .slice au xs.length cu]) (by simp [results, Try.results32, go_sem, *]) rfl ⟨⟨xs, _, us, G, rfl, hord, (hO.keep (by simp) fun k hk _ => ?_).weak (by omega)⟩, ?_⟩
      · repeat rw [Below.heap_setCell _ _ _ _ (by simp; omega)]
      · exact (hb3.setCell (by simp) _).setCell (by simp) _
end Go.Proofs.Ytooeohhkcemoiaa
/- Own text. The contract of impl.sumOf at two bags. -/
namespace Go.Proofs.Ytooeohhkcemoiaa
open Go.RowKit Go.Shelf
set_option linter.unusedVariables false
/-- whether two bags have a sum. -/
def sumOk (W Wb : Int) (cs ds : List C2) : Bool := okBag W cs && okBag Wb ds && W == Wb && okBag W (sumC cs ds 1)
set_option maxHeartbeats 8000000 in
set_option maxRecDepth 100000 in
theorem sumOf_any (W Wb : Int) (va vb : Value) (cs ds : List C2) (F F2 : List Nat) (w : World) (B : Nat) (c0 : w.cell? ⟨B, 0, none⟩ = some (.int .i64 W)) (c1 : w.cell? ⟨B, 1, none⟩ = some va) (c2 : w.cell? ⟨B, 2, none⟩ = some (.int .i64 Wb)) (c3 : w.cell? ⟨B, 3, none⟩ = some vb) (hB : B < w.heap.size)
    (ha : RowsF w va cs F) (hb : RowsF w vb ds F2) (hn : wtb cs ≤ 1048576) (hn2 : wtb ds ≤ 1048576) (wc : CsWf cs) (wd : CsWf ds) :
    Calls Try.prog 19 #[.slice (some ⟨B, 0, none⟩) 2 2] w fun e w' => (∃ V u R us G, e = .returned (.tuple #[.agg #[.int .i64 V, u], .bool (sumOk W Wb cs ds)]) ∧ BagOwn w' w.heap.size u R us G ∧ (sumOk W Wb cs ds = true → V = W ∧ R = sumC cs ds 1)) ∧ Below w.heap.size w w' := by
  obtain ⟨aa, ca, rfl⟩ : ∃ a c, va = .slice a cs.length c := by obtain ⟨a, c, _, e, _⟩ := ha; exact ⟨a, c, e⟩
  obtain ⟨ab, cb, rfl⟩ : ∃ a c, vb = .slice a ds.length c := by obtain ⟨a, c, _, e, _⟩ := hb; exact ⟨a, c, e⟩
  obtain ⟨kk, HK⟩ : ∃ kk, Hid (sumOk W Wb cs ds = kk) := ⟨_, rfl⟩
  go_enter Try.func19, Try.ntmps19
  go_wp2
  go_loopw [9] (fun i wr => ∃ k : Nat, k ≤ 2 ∧ i = .int .i64 k ∧ Below (w.heap.size + 1) (w.alloc (.cells #[.int .i64 0, .slice none 0 0] 37)) wr ∧ (1 ≤ k → okBag W cs = true) ∧ (2 ≤ k → okBag Wb ds = true ∧ W = Wb)) (fun i _ => 2 - (intOf i).toNat)
  case atStart => exact ⟨0, by omega, rfl, Below.refl _ _, fun h => by omega, fun h => by omega⟩
  case round =>
    obtain ⟨k, hk, rfl, hbr, hk1, hk2⟩ := hrel
    have hzr := hbr.size
    simp only [World.size_alloc] at hzr
    have hbw : Below w.heap.size w wr := ((Below.refl _ w).alloc (Nat.le_refl _) _).trans (hbr.mono (by omega))
    have d0 := (hbw.cell (p := ⟨B, 0, none⟩) hB).trans c0
    have d1 := (hbw.cell (p := ⟨B, 1, none⟩) hB).trans c1
    have d2 := (hbw.cell (p := ⟨B, 2, none⟩) hB).trans c2
    have d3 := (hbw.cell (p := ⟨B, 3, none⟩) hB).trans c3
    have hBr : B < wr.heap.size := by omega
    have hwr : w.heap.size < wr.heap.size := by omega
    have r0 : wr.cell? ⟨w.heap.size, 0, none⟩ = some (.int .i64 0) := (hbr.cell (p := ⟨w.heap.size, 0, none⟩) (by simp)).trans (by go_simp)
    have r1 : wr.cell? ⟨w.heap.size, 1, none⟩ = some (.slice none 0 0) := (hbr.cell (p := ⟨w.heap.size, 1, none⟩) (by simp)).trans (by go_simp)
    have rf : ∀ q, wr.frozen? ⟨w.heap.size, q, none⟩ = false := fun q => (frozen_blk (hbr.block w.heap.size (by simp))).trans (by go_simp)
    have hbrT : ∀ w3, Below wr.heap.size wr w3 → Below (w.heap.size + 1) (w.alloc (.cells #[.int .i64 0, .slice none 0 0] 37)) w3 := fun w3 h => hbr.trans (h.mono (by omega))
    rcases (by omega : k = 0 ∨ k = 1 ∨ k = 2) with rfl | rfl | rfl
    · cases hok : okBag W cs with
      | false =>
        have HF : Hid (kk = false) := by rw [Hid, ← HK.out, sumOk, hok]; rfl
        rw [HF.out] at HK
        clear hk1 hk2
        go_wp2_with fail
        refine wp_region_held_drew (S := (fun w' => w'.cell? ⟨wr.heap.size, 0, none⟩ = some (.int .i64 W) ∧ w'.cell? ⟨wr.heap.size, 1, none⟩ = some (.slice aa cs.length ca) ∧ w'.cell? ⟨B, 0, none⟩ = some (.int .i64 W))) (by kernel_rfl) ?_ (fun hHeld => ?_)
        · (try dsimp only); refine ⟨?_, ?_, ?_⟩ <;> first | (go_simp; done) | (exact cell_later (by assumption) (by go_simp))
        refine takeYes (i := 0) (d := 13) (v := ?_) rfl rfl (by kernel_rfl) (by kernel_rfl) (by kernel_rfl) (fun _ _ _ h => h) (by rfl) (by assumption) ?_ ?_
        rotate_left
        · intro w' hSw; (try dsimp only at hSw); go_simp; try exact rfl
        try simp only [List.setIfInBounds_toArray, List.set_cons_zero, List.set_cons_succ]
        refine wpAnyH_ready (rs := [1]) (by kernel_rfl) (by simp) ?_
        refine AllReadyH.cons rfl (fun K hK => ?_) AllReadyH.nil
        go_simp
        go_at_call 31
        refine Calls.mono (implBagOk_any W (.slice aa cs.length ca) cs _ wc ((ha.is.below hbw).below (by repeat (first | exact Below.refl _ _ | refine Below.drew ?_ | refine Below.alloc ?_ (by first | (simp; done) | (simp; omega) | omega) _ | refine Below.setCell ?_ (by first | (simp; done) | (simp; omega) | omega) _ | refine bstep (by assumption) (by first | (simp; done) | (simp; omega) | omega) ?_)))) ?_
        rintro e w2 ⟨rfl, hb2⟩
        have hz2 := hb2.size
        (try simp at hz2)
        try go_wp2_with fail
        refine hK.out _ _ ?_ (fun hHeld1 => ?_)
        · (try dsimp only); refine ⟨?_, ?_, ?_⟩ <;> first | (go_simp; done) | (exact cell_later (by assumption) (by go_simp))
        clear hK
        refine takeYes (i := 2) (d := 15) (v := ?_) rfl rfl (by kernel_rfl) (by kernel_rfl) (by kernel_rfl) (fun _ _ _ h => h) (by rfl) (by assumption) ?_ ?_
        rotate_left
        · intro w' hSw; (try dsimp only at hSw); go_simp; try exact rfl
        try simp only [List.setIfInBounds_toArray, List.set_cons_zero, List.set_cons_succ]
        refine takeYes (i := 3) (d := 16) (v := ?_) rfl rfl (by kernel_rfl) (by kernel_rfl) (by kernel_rfl) (fun _ _ _ h => h) (by rfl) (by assumption) ?_ ?_
        rotate_left
        · intro w' hSw; (try dsimp only at hSw); go_simp; try exact rfl
        try simp only [List.setIfInBounds_toArray, List.set_cons_zero, List.set_cons_succ]
        refine takeNo (i := 4) (d := 17) rfl rfl (by kernel_rfl) (by kernel_rfl) (by kernel_rfl) (fun _ _ _ h => h) (by rfl) (by assumption) ?_
        try simp only [List.setIfInBounds_toArray, List.set_cons_zero, List.set_cons_succ]
        refine takeNo (i := 5) (d := 18) rfl rfl (by kernel_rfl) (by kernel_rfl) (by kernel_rfl) (fun _ _ _ h => h) (by rfl) (by assumption) ?_
        try simp only [List.setIfInBounds_toArray, List.set_cons_zero, List.set_cons_succ]
        refine takeNo (i := 6) (d := 19) rfl rfl (by kernel_rfl) (by kernel_rfl) (by kernel_rfl) (fun _ _ _ h => h) (by rfl) (by assumption) ?_
        try simp only [List.setIfInBounds_toArray, List.set_cons_zero, List.set_cons_succ]
        refine takeNo (i := 7) (d := 20) rfl rfl (by kernel_rfl) (by kernel_rfl) (by kernel_rfl) (fun _ _ _ h => h) (by rfl) (by assumption) ?_
        try simp only [List.setIfInBounds_toArray, List.set_cons_zero, List.set_cons_succ]
        refine takeNo (i := 8) (d := 21) rfl rfl (by kernel_rfl) (by kernel_rfl) (by kernel_rfl) (fun _ _ _ h => h) (by rfl) (by assumption) ?_
        try simp only [List.setIfInBounds_toArray, List.set_cons_zero, List.set_cons_succ]
        refine takeNo (i := 9) (d := 22) rfl rfl (by kernel_rfl) (by kernel_rfl) (by kernel_rfl) (fun _ _ _ h => h) (by rfl) (by assumption) ?_
        try simp only [List.setIfInBounds_toArray, List.set_cons_zero, List.set_cons_succ]
        refine takeNo (i := 10) (d := 23) rfl rfl (by kernel_rfl) (by kernel_rfl) (by kernel_rfl) (fun _ _ _ h => h) (by rfl) (by assumption) ?_
        try simp only [List.setIfInBounds_toArray, List.set_cons_zero, List.set_cons_succ]
        refine takeYes (i := 11) (d := 24) (v := ?_) rfl rfl (by kernel_rfl) (by kernel_rfl) (by kernel_rfl) (fun _ _ _ h => h) (by rfl) (by assumption) ?_ ?_
        rotate_left
        · intro w' hSw; (try dsimp only at hSw); go_simp; try exact rfl
        try simp only [List.setIfInBounds_toArray, List.set_cons_zero, List.set_cons_succ]
        refine wpAnyH_done (by kernel_rfl) ?_ _
        have hb2x : Below wr.heap.size wr w2 := by repeat (first | exact Below.refl _ _ | refine Below.drew ?_ | refine Below.alloc ?_ (by first | (simp; done) | (simp; omega) | omega) _ | refine Below.setCell ?_ (by first | (simp; done) | (simp; omega) | omega) _ | refine bstep (by assumption) (by first | (simp; done) | (simp; omega) | omega) ?_)
        have s0 : w2.cell? ⟨w.heap.size, 0, none⟩ = some (.int .i64 0) := (hb2x.cell (p := ⟨w.heap.size, 0, none⟩) hwr).trans r0
        have s1 : w2.cell? ⟨w.heap.size, 1, none⟩ = some (.slice none 0 0) := (hb2x.cell (p := ⟨w.heap.size, 1, none⟩) hwr).trans r1
        have sf : ∀ q, w2.frozen? ⟨w.heap.size, q, none⟩ = false := fun q => (frozen_blk (hb2x.block w.heap.size hwr)).trans (rf q)
        have hw2 : w.heap.size < w2.heap.size := by omega
        clear r0 r1 rf
        go_wp2
        refine bodyPost_ret (v := .tuple #[.agg #[.int .i64 0, .slice none 0 0], .bool false]) (by simp [results, Try.results19, go_sem, *]) rfl ⟨⟨0, _, [], [], [], by rw [HK.out], BagOwn.nil _ _, fun h => by rw [HK.out] at h; cases h⟩, ?_⟩
        repeat (first | (with_reducible exact hbw) | (with_reducible refine Below.setCell ?_ ?hh _; case hh => (simp; try omega)) | (with_reducible exact hbw.trans (hb2x.mono hbw.size)))
      | true =>
        clear hk1 hk2
        go_wp2_with fail
        refine wp_region_held_drew (S := (fun w' => w'.cell? ⟨wr.heap.size, 0, none⟩ = some (.int .i64 W) ∧ w'.cell? ⟨wr.heap.size, 1, none⟩ = some (.slice aa cs.length ca) ∧ w'.cell? ⟨B, 0, none⟩ = some (.int .i64 W))) (by kernel_rfl) ?_ (fun hHeld => ?_)
        · (try dsimp only); refine ⟨?_, ?_, ?_⟩ <;> first | (go_simp; done) | (exact cell_later (by assumption) (by go_simp))
        refine takeYes (i := 0) (d := 13) (v := ?_) rfl rfl (by kernel_rfl) (by kernel_rfl) (by kernel_rfl) (fun _ _ _ h => h) (by rfl) (by assumption) ?_ ?_
        rotate_left
        · intro w' hSw; (try dsimp only at hSw); go_simp; try exact rfl
        try simp only [List.setIfInBounds_toArray, List.set_cons_zero, List.set_cons_succ]
        refine wpAnyH_ready (rs := [1]) (by kernel_rfl) (by simp) ?_
        refine AllReadyH.cons rfl (fun K hK => ?_) AllReadyH.nil
        go_simp
        go_at_call 31
        refine Calls.mono (implBagOk_any W (.slice aa cs.length ca) cs _ wc ((ha.is.below hbw).below (by repeat (first | exact Below.refl _ _ | refine Below.drew ?_ | refine Below.alloc ?_ (by first | (simp; done) | (simp; omega) | omega) _ | refine Below.setCell ?_ (by first | (simp; done) | (simp; omega) | omega) _ | refine bstep (by assumption) (by first | (simp; done) | (simp; omega) | omega) ?_)))) ?_
        rintro e w2 ⟨rfl, hb2⟩
        have hz2 := hb2.size
        (try simp at hz2)
        try go_wp2_with fail
        refine hK.out _ _ ?_ (fun hHeld1 => ?_)
        · (try dsimp only); refine ⟨?_, ?_, ?_⟩ <;> first | (go_simp; done) | (exact cell_later (by assumption) (by go_simp))
        clear hK
        refine takeYes (i := 2) (d := 15) (v := ?_) rfl rfl (by kernel_rfl) (by kernel_rfl) (by kernel_rfl) (fun _ _ _ h => h) (by rfl) (by assumption) ?_ ?_
        rotate_left
        · intro w' hSw; (try dsimp only at hSw); go_simp; try exact rfl
        try simp only [List.setIfInBounds_toArray, List.set_cons_zero, List.set_cons_succ]
        refine takeYes (i := 3) (d := 16) (v := ?_) rfl rfl (by kernel_rfl) (by kernel_rfl) (by kernel_rfl) (fun _ _ _ h => h) (by rfl) (by assumption) ?_ ?_
        rotate_left
        · intro w' hSw; (try dsimp only at hSw); go_simp; try exact rfl
        try simp only [List.setIfInBounds_toArray, List.set_cons_zero, List.set_cons_succ]
        refine takeYes (i := 4) (d := 17) (v := ?_) rfl rfl (by kernel_rfl) (by kernel_rfl) (by kernel_rfl) (fun _ _ _ h => h) (by rfl) (by assumption) ?_ ?_
        rotate_left
        · intro w' hSw; (try dsimp only at hSw); go_simp; try exact rfl
        try simp only [List.setIfInBounds_toArray, List.set_cons_zero, List.set_cons_succ]
        refine takeYes (i := 5) (d := 18) (v := ?_) rfl rfl (by kernel_rfl) (by kernel_rfl) (by kernel_rfl) (fun _ _ _ h => h) (by rfl) (by assumption) ?_ ?_
        rotate_left
        · intro w' hSw; (try dsimp only at hSw); go_simp; try exact rfl
        try simp only [List.setIfInBounds_toArray, List.set_cons_zero, List.set_cons_succ]
        refine takeYes (i := 6) (d := 19) (v := ?_) rfl rfl (by kernel_rfl) (by kernel_rfl) (by kernel_rfl) (fun _ _ _ h => h) (by rfl) (by assumption) ?_ ?_
        rotate_left
        · intro w' hSw; (try dsimp only at hSw); go_simp; try exact rfl
        try simp only [List.setIfInBounds_toArray, List.set_cons_zero, List.set_cons_succ]
        refine takeYes (i := 7) (d := 20) (v := ?_) rfl rfl (by kernel_rfl) (by kernel_rfl) (by kernel_rfl) (fun _ _ _ h => h) (by rfl) (by assumption) ?_ ?_
        rotate_left
        · intro w' hSw; (try dsimp only at hSw); go_simp; try exact rfl
        try simp only [List.setIfInBounds_toArray, List.set_cons_zero, List.set_cons_succ]
        refine takeYes (i := 8) (d := 21) (v := ?_) rfl rfl (by kernel_rfl) (by kernel_rfl) (by kernel_rfl) (fun _ _ _ h => h) (by rfl) (by assumption) ?_ ?_
        rotate_left
        · intro w' hSw; (try dsimp only at hSw); go_simp; try exact rfl
        try simp only [List.setIfInBounds_toArray, List.set_cons_zero, List.set_cons_succ]
        refine takeYes (i := 9) (d := 22) (v := ?_) rfl rfl (by kernel_rfl) (by kernel_rfl) (by kernel_rfl) (fun _ _ _ h => h) (by rfl) (by assumption) ?_ ?_
        rotate_left
        · intro w' hSw; (try dsimp only at hSw); go_simp; try exact rfl
        try simp only [List.setIfInBounds_toArray, List.set_cons_zero, List.set_cons_succ]
        refine takeYes (i := 10) (d := 23) (v := ?_) rfl rfl (by kernel_rfl) (by kernel_rfl) (by kernel_rfl) (fun _ _ _ h => h) (by rfl) (by assumption) ?_ ?_
        rotate_left
        · intro w' hSw; (try dsimp only at hSw); go_simp; try exact rfl
        try simp only [List.setIfInBounds_toArray, List.set_cons_zero, List.set_cons_succ]
        refine takeYes (i := 11) (d := 24) (v := ?_) rfl rfl (by kernel_rfl) (by kernel_rfl) (by kernel_rfl) (fun _ _ _ h => h) (by rfl) (by assumption) ?_ ?_
        rotate_left
        · intro w' hSw; (try dsimp only at hSw); go_simp; try exact rfl
        try simp only [List.setIfInBounds_toArray, List.set_cons_zero, List.set_cons_succ]
        refine wpAnyH_done (by kernel_rfl) ?_ _
        have hb2x : Below wr.heap.size wr w2 := by repeat (first | exact Below.refl _ _ | refine Below.drew ?_ | refine Below.alloc ?_ (by first | (simp; done) | (simp; omega) | omega) _ | refine Below.setCell ?_ (by first | (simp; done) | (simp; omega) | omega) _ | refine bstep (by assumption) (by first | (simp; done) | (simp; omega) | omega) ?_)
        go_wp2
        go_roundw
        case rel => exact ⟨1, by omega, by simp, hbrT _ hb2x, fun _ => (by first | exact hok | trivial), fun h => by omega⟩
        case measure => simp [intOf]
    · have hok0 := hk1 (by omega)
      cases hok : okBag Wb ds with
      | false =>
        have HF : Hid (kk = false) := by rw [Hid, ← HK.out, sumOk, hok0, hok]; rfl
        rw [HF.out] at HK
        clear hk1 hk2
        go_wp2_with fail
        refine wp_region_held_drew (S := (fun w' => w'.cell? ⟨wr.heap.size, 0, none⟩ = some (.int .i64 Wb) ∧ w'.cell? ⟨wr.heap.size, 1, none⟩ = some (.slice ab ds.length cb) ∧ w'.cell? ⟨B, 0, none⟩ = some (.int .i64 W))) (by kernel_rfl) ?_ (fun hHeld => ?_)
        · (try dsimp only); refine ⟨?_, ?_, ?_⟩ <;> first | (go_simp; done) | (exact cell_later (by assumption) (by go_simp))
        refine takeYes (i := 0) (d := 13) (v := ?_) rfl rfl (by kernel_rfl) (by kernel_rfl) (by kernel_rfl) (fun _ _ _ h => h) (by rfl) (by assumption) ?_ ?_
        rotate_left
        · intro w' hSw; (try dsimp only at hSw); go_simp; try exact rfl
        try simp only [List.setIfInBounds_toArray, List.set_cons_zero, List.set_cons_succ]
        refine wpAnyH_ready (rs := [1]) (by kernel_rfl) (by simp) ?_
        refine AllReadyH.cons rfl (fun K hK => ?_) AllReadyH.nil
        go_simp
        go_at_call 31
        refine Calls.mono (implBagOk_any Wb (.slice ab ds.length cb) ds _ wd ((hb.is.below hbw).below (by repeat (first | exact Below.refl _ _ | refine Below.drew ?_ | refine Below.alloc ?_ (by first | (simp; done) | (simp; omega) | omega) _ | refine Below.setCell ?_ (by first | (simp; done) | (simp; omega) | omega) _ | refine bstep (by assumption) (by first | (simp; done) | (simp; omega) | omega) ?_)))) ?_
        rintro e w2 ⟨rfl, hb2⟩
        have hz2 := hb2.size
        (try simp at hz2)
        try go_wp2_with fail
        refine hK.out _ _ ?_ (fun hHeld1 => ?_)
        · (try dsimp only); refine ⟨?_, ?_, ?_⟩ <;> first | (go_simp; done) | (exact cell_later (by assumption) (by go_simp))
        clear hK
        refine takeYes (i := 2) (d := 15) (v := ?_) rfl rfl (by kernel_rfl) (by kernel_rfl) (by kernel_rfl) (fun _ _ _ h => h) (by rfl) (by assumption) ?_ ?_
        rotate_left
        · intro w' hSw; (try dsimp only at hSw); go_simp; try exact rfl
        try simp only [List.setIfInBounds_toArray, List.set_cons_zero, List.set_cons_succ]
        refine takeYes (i := 3) (d := 16) (v := ?_) rfl rfl (by kernel_rfl) (by kernel_rfl) (by kernel_rfl) (fun _ _ _ h => h) (by rfl) (by assumption) ?_ ?_
        rotate_left
        · intro w' hSw; (try dsimp only at hSw); go_simp; try exact rfl
        try simp only [List.setIfInBounds_toArray, List.set_cons_zero, List.set_cons_succ]
        refine takeNo (i := 4) (d := 17) rfl rfl (by kernel_rfl) (by kernel_rfl) (by kernel_rfl) (fun _ _ _ h => h) (by rfl) (by assumption) ?_
        try simp only [List.setIfInBounds_toArray, List.set_cons_zero, List.set_cons_succ]
        refine takeNo (i := 5) (d := 18) rfl rfl (by kernel_rfl) (by kernel_rfl) (by kernel_rfl) (fun _ _ _ h => h) (by rfl) (by assumption) ?_
        try simp only [List.setIfInBounds_toArray, List.set_cons_zero, List.set_cons_succ]
        refine takeNo (i := 6) (d := 19) rfl rfl (by kernel_rfl) (by kernel_rfl) (by kernel_rfl) (fun _ _ _ h => h) (by rfl) (by assumption) ?_
        try simp only [List.setIfInBounds_toArray, List.set_cons_zero, List.set_cons_succ]
        refine takeNo (i := 7) (d := 20) rfl rfl (by kernel_rfl) (by kernel_rfl) (by kernel_rfl) (fun _ _ _ h => h) (by rfl) (by assumption) ?_
        try simp only [List.setIfInBounds_toArray, List.set_cons_zero, List.set_cons_succ]
        refine takeNo (i := 8) (d := 21) rfl rfl (by kernel_rfl) (by kernel_rfl) (by kernel_rfl) (fun _ _ _ h => h) (by rfl) (by assumption) ?_
        try simp only [List.setIfInBounds_toArray, List.set_cons_zero, List.set_cons_succ]
        refine takeNo (i := 9) (d := 22) rfl rfl (by kernel_rfl) (by kernel_rfl) (by kernel_rfl) (fun _ _ _ h => h) (by rfl) (by assumption) ?_
        try simp only [List.setIfInBounds_toArray, List.set_cons_zero, List.set_cons_succ]
        refine takeNo (i := 10) (d := 23) rfl rfl (by kernel_rfl) (by kernel_rfl) (by kernel_rfl) (fun _ _ _ h => h) (by rfl) (by assumption) ?_
        try simp only [List.setIfInBounds_toArray, List.set_cons_zero, List.set_cons_succ]
        refine takeYes (i := 11) (d := 24) (v := ?_) rfl rfl (by kernel_rfl) (by kernel_rfl) (by kernel_rfl) (fun _ _ _ h => h) (by rfl) (by assumption) ?_ ?_
        rotate_left
        · intro w' hSw; (try dsimp only at hSw); go_simp; try exact rfl
        try simp only [List.setIfInBounds_toArray, List.set_cons_zero, List.set_cons_succ]
        refine wpAnyH_done (by kernel_rfl) ?_ _
        have hb2x : Below wr.heap.size wr w2 := by repeat (first | exact Below.refl _ _ | refine Below.drew ?_ | refine Below.alloc ?_ (by first | (simp; done) | (simp; omega) | omega) _ | refine Below.setCell ?_ (by first | (simp; done) | (simp; omega) | omega) _ | refine bstep (by assumption) (by first | (simp; done) | (simp; omega) | omega) ?_)
        have s0 : w2.cell? ⟨w.heap.size, 0, none⟩ = some (.int .i64 0) := (hb2x.cell (p := ⟨w.heap.size, 0, none⟩) hwr).trans r0
        have s1 : w2.cell? ⟨w.heap.size, 1, none⟩ = some (.slice none 0 0) := (hb2x.cell (p := ⟨w.heap.size, 1, none⟩) hwr).trans r1
        have sf : ∀ q, w2.frozen? ⟨w.heap.size, q, none⟩ = false := fun q => (frozen_blk (hb2x.block w.heap.size hwr)).trans (rf q)
        have hw2 : w.heap.size < w2.heap.size := by omega
        clear r0 r1 rf
        go_wp2
        refine bodyPost_ret (v := .tuple #[.agg #[.int .i64 0, .slice none 0 0], .bool false]) (by simp [results, Try.results19, go_sem, *]) rfl ⟨⟨0, _, [], [], [], by rw [HK.out], BagOwn.nil _ _, fun h => by rw [HK.out] at h; cases h⟩, ?_⟩
        repeat (first | (with_reducible exact hbw) | (with_reducible refine Below.setCell ?_ ?hh _; case hh => (simp; try omega)) | (with_reducible exact hbw.trans (hb2x.mono hbw.size)))
      | true =>
        clear hk1 hk2
        by_cases hww : W = Wb
        rotate_left
        · have hwI : (Wb != W) = true := by simpa using fun e => hww e.symm
          have HF : Hid (kk = false) := by rw [Hid, ← HK.out, sumOk, hok0, hok]; simp [hww]
          rw [HF.out] at HK
          go_wp2_with fail
          refine wp_region_held_drew (S := (fun w' => w'.cell? ⟨wr.heap.size, 0, none⟩ = some (.int .i64 Wb) ∧ w'.cell? ⟨wr.heap.size, 1, none⟩ = some (.slice ab ds.length cb) ∧ w'.cell? ⟨B, 0, none⟩ = some (.int .i64 W))) (by kernel_rfl) ?_ (fun hHeld => ?_)
          · (try dsimp only); refine ⟨?_, ?_, ?_⟩ <;> first | (go_simp; done) | (exact cell_later (by assumption) (by go_simp))
          refine takeYes (i := 0) (d := 13) (v := ?_) rfl rfl (by kernel_rfl) (by kernel_rfl) (by kernel_rfl) (fun _ _ _ h => h) (by rfl) (by assumption) ?_ ?_
          rotate_left
          · intro w' hSw; (try dsimp only at hSw); go_simp; try exact rfl
          try simp only [List.setIfInBounds_toArray, List.set_cons_zero, List.set_cons_succ]
          refine wpAnyH_ready (rs := [1]) (by kernel_rfl) (by simp) ?_
          refine AllReadyH.cons rfl (fun K hK => ?_) AllReadyH.nil
          go_simp
          go_at_call 31
          refine Calls.mono (implBagOk_any Wb (.slice ab ds.length cb) ds _ wd ((hb.is.below hbw).below (by repeat (first | exact Below.refl _ _ | refine Below.drew ?_ | refine Below.alloc ?_ (by first | (simp; done) | (simp; omega) | omega) _ | refine Below.setCell ?_ (by first | (simp; done) | (simp; omega) | omega) _ | refine bstep (by assumption) (by first | (simp; done) | (simp; omega) | omega) ?_)))) ?_
          rintro e w2 ⟨rfl, hb2⟩
          have hz2 := hb2.size
          (try simp at hz2)
          try go_wp2_with fail
          refine hK.out _ _ ?_ (fun hHeld1 => ?_)
          · (try dsimp only); refine ⟨?_, ?_, ?_⟩ <;> first | (go_simp; done) | (exact cell_later (by assumption) (by go_simp))
          clear hK
          refine takeYes (i := 2) (d := 15) (v := ?_) rfl rfl (by kernel_rfl) (by kernel_rfl) (by kernel_rfl) (fun _ _ _ h => h) (by rfl) (by assumption) ?_ ?_
          rotate_left
          · intro w' hSw; (try dsimp only at hSw); go_simp; try exact rfl
          try simp only [List.setIfInBounds_toArray, List.set_cons_zero, List.set_cons_succ]
          refine takeYes (i := 3) (d := 16) (v := ?_) rfl rfl (by kernel_rfl) (by kernel_rfl) (by kernel_rfl) (fun _ _ _ h => h) (by rfl) (by assumption) ?_ ?_
          rotate_left
          · intro w' hSw; (try dsimp only at hSw); go_simp; try exact rfl
          try simp only [List.setIfInBounds_toArray, List.set_cons_zero, List.set_cons_succ]
          refine takeYes (i := 4) (d := 17) (v := ?_) rfl rfl (by kernel_rfl) (by kernel_rfl) (by kernel_rfl) (fun _ _ _ h => h) (by rfl) (by assumption) ?_ ?_
          rotate_left
          · intro w' hSw; (try dsimp only at hSw); go_simp; try exact rfl
          try simp only [List.setIfInBounds_toArray, List.set_cons_zero, List.set_cons_succ]
          refine takeYes (i := 5) (d := 18) (v := ?_) rfl rfl (by kernel_rfl) (by kernel_rfl) (by kernel_rfl) (fun _ _ _ h => h) (by rfl) (by assumption) ?_ ?_
          rotate_left
          · intro w' hSw; (try dsimp only at hSw); go_simp; try exact rfl
          try simp only [List.setIfInBounds_toArray, List.set_cons_zero, List.set_cons_succ]
          refine takeYes (i := 6) (d := 19) (v := ?_) rfl rfl (by kernel_rfl) (by kernel_rfl) (by kernel_rfl) (fun _ _ _ h => h) (by rfl) (by assumption) ?_ ?_
          rotate_left
          · intro w' hSw; (try dsimp only at hSw); go_simp; try exact rfl
          try simp only [List.setIfInBounds_toArray, List.set_cons_zero, List.set_cons_succ]
          refine takeYes (i := 7) (d := 20) (v := ?_) rfl rfl (by kernel_rfl) (by kernel_rfl) (by kernel_rfl) (fun _ _ _ h => h) (by rfl) (by assumption) ?_ ?_
          rotate_left
          · intro w' hSw; (try dsimp only at hSw); go_simp; try exact rfl
          try simp only [List.setIfInBounds_toArray, List.set_cons_zero, List.set_cons_succ]
          refine takeYes (i := 8) (d := 21) (v := ?_) rfl rfl (by kernel_rfl) (by kernel_rfl) (by kernel_rfl) (fun _ _ _ h => h) (by rfl) (by assumption) ?_ ?_
          rotate_left
          · intro w' hSw; (try dsimp only at hSw); go_simp; try exact rfl
          try simp only [List.setIfInBounds_toArray, List.set_cons_zero, List.set_cons_succ]
          refine takeYes (i := 9) (d := 22) (v := ?_) rfl rfl (by kernel_rfl) (by kernel_rfl) (by kernel_rfl) (fun _ _ _ h => h) (by rfl) (by assumption) ?_ ?_
          rotate_left
          · intro w' hSw; (try dsimp only at hSw); go_simp; try exact rfl
          try simp only [List.setIfInBounds_toArray, List.set_cons_zero, List.set_cons_succ]
          refine takeYes (i := 10) (d := 23) (v := ?_) rfl rfl (by kernel_rfl) (by kernel_rfl) (by kernel_rfl) (fun _ _ _ h => h) (by rfl) (by assumption) ?_ ?_
          rotate_left
          · intro w' hSw; (try dsimp only at hSw); go_simp; try exact rfl
          try simp only [List.setIfInBounds_toArray, List.set_cons_zero, List.set_cons_succ]
          refine takeYes (i := 11) (d := 24) (v := ?_) rfl rfl (by kernel_rfl) (by kernel_rfl) (by kernel_rfl) (fun _ _ _ h => h) (by rfl) (by assumption) ?_ ?_
          rotate_left
          · intro w' hSw; (try dsimp only at hSw); go_simp; try exact rfl
          try simp only [List.setIfInBounds_toArray, List.set_cons_zero, List.set_cons_succ]
          refine wpAnyH_done (by kernel_rfl) ?_ _
          have hb2x : Below wr.heap.size wr w2 := by repeat (first | exact Below.refl _ _ | refine Below.drew ?_ | refine Below.alloc ?_ (by first | (simp; done) | (simp; omega) | omega) _ | refine Below.setCell ?_ (by first | (simp; done) | (simp; omega) | omega) _ | refine bstep (by assumption) (by first | (simp; done) | (simp; omega) | omega) ?_)
          have s0 : w2.cell? ⟨w.heap.size, 0, none⟩ = some (.int .i64 0) := (hb2x.cell (p := ⟨w.heap.size, 0, none⟩) hwr).trans r0
          have s1 : w2.cell? ⟨w.heap.size, 1, none⟩ = some (.slice none 0 0) := (hb2x.cell (p := ⟨w.heap.size, 1, none⟩) hwr).trans r1
          have sf : ∀ q, w2.frozen? ⟨w.heap.size, q, none⟩ = false := fun q => (frozen_blk (hb2x.block w.heap.size hwr)).trans (rf q)
          have hw2 : w.heap.size < w2.heap.size := by omega
          clear r0 r1 rf
          go_wp2
          refine bodyPost_ret (v := .tuple #[.agg #[.int .i64 0, .slice none 0 0], .bool false]) (by simp [results, Try.results19, go_sem, *]) rfl ⟨⟨0, _, [], [], [], by rw [HK.out], BagOwn.nil _ _, fun h => by rw [HK.out] at h; cases h⟩, ?_⟩
          repeat (first | (with_reducible exact hbw) | (with_reducible refine Below.setCell ?_ ?hh _; case hh => (simp; try omega)) | (with_reducible exact hbw.trans (hb2x.mono hbw.size)))
        · have hwI : (Wb != W) = false := by simpa using hww.symm
          have HW : Hid (W = Wb) := hww
          clear hww
          go_wp2_with fail
          refine wp_region_held_drew (S := (fun w' => w'.cell? ⟨wr.heap.size, 0, none⟩ = some (.int .i64 Wb) ∧ w'.cell? ⟨wr.heap.size, 1, none⟩ = some (.slice ab ds.length cb) ∧ w'.cell? ⟨B, 0, none⟩ = some (.int .i64 W))) (by kernel_rfl) ?_ (fun hHeld => ?_)
          · (try dsimp only); refine ⟨?_, ?_, ?_⟩ <;> first | (go_simp; done) | (exact cell_later (by assumption) (by go_simp))
          refine takeYes (i := 0) (d := 13) (v := ?_) rfl rfl (by kernel_rfl) (by kernel_rfl) (by kernel_rfl) (fun _ _ _ h => h) (by rfl) (by assumption) ?_ ?_
          rotate_left
          · intro w' hSw; (try dsimp only at hSw); go_simp; try exact rfl
          try simp only [List.setIfInBounds_toArray, List.set_cons_zero, List.set_cons_succ]
          refine wpAnyH_ready (rs := [1]) (by kernel_rfl) (by simp) ?_
          refine AllReadyH.cons rfl (fun K hK => ?_) AllReadyH.nil
          go_simp
          go_at_call 31
          refine Calls.mono (implBagOk_any Wb (.slice ab ds.length cb) ds _ wd ((hb.is.below hbw).below (by repeat (first | exact Below.refl _ _ | refine Below.drew ?_ | refine Below.alloc ?_ (by first | (simp; done) | (simp; omega) | omega) _ | refine Below.setCell ?_ (by first | (simp; done) | (simp; omega) | omega) _ | refine bstep (by assumption) (by first | (simp; done) | (simp; omega) | omega) ?_)))) ?_
          rintro e w2 ⟨rfl, hb2⟩
          have hz2 := hb2.size
          (try simp at hz2)
          try go_wp2_with fail
          refine hK.out _ _ ?_ (fun hHeld1 => ?_)
          · (try dsimp only); refine ⟨?_, ?_, ?_⟩ <;> first | (go_simp; done) | (exact cell_later (by assumption) (by go_simp))
          clear hK
          refine takeYes (i := 2) (d := 15) (v := ?_) rfl rfl (by kernel_rfl) (by kernel_rfl) (by kernel_rfl) (fun _ _ _ h => h) (by rfl) (by assumption) ?_ ?_
          rotate_left
          · intro w' hSw; (try dsimp only at hSw); go_simp; try exact rfl
          try simp only [List.setIfInBounds_toArray, List.set_cons_zero, List.set_cons_succ]
          refine takeYes (i := 3) (d := 16) (v := ?_) rfl rfl (by kernel_rfl) (by kernel_rfl) (by kernel_rfl) (fun _ _ _ h => h) (by rfl) (by assumption) ?_ ?_
          rotate_left
          · intro w' hSw; (try dsimp only at hSw); go_simp; try exact rfl
          try simp only [List.setIfInBounds_toArray, List.set_cons_zero, List.set_cons_succ]
          refine takeYes (i := 4) (d := 17) (v := ?_) rfl rfl (by kernel_rfl) (by kernel_rfl) (by kernel_rfl) (fun _ _ _ h => h) (by rfl) (by assumption) ?_ ?_
          rotate_left
          · intro w' hSw; (try dsimp only at hSw); go_simp; try exact rfl
          try simp only [List.setIfInBounds_toArray, List.set_cons_zero, List.set_cons_succ]
          refine takeYes (i := 5) (d := 18) (v := ?_) rfl rfl (by kernel_rfl) (by kernel_rfl) (by kernel_rfl) (fun _ _ _ h => h) (by rfl) (by assumption) ?_ ?_
          rotate_left
          · intro w' hSw; (try dsimp only at hSw); go_simp; try exact rfl
          try simp only [List.setIfInBounds_toArray, List.set_cons_zero, List.set_cons_succ]
          refine takeYes (i := 6) (d := 19) (v := ?_) rfl rfl (by kernel_rfl) (by kernel_rfl) (by kernel_rfl) (fun _ _ _ h => h) (by rfl) (by assumption) ?_ ?_
          rotate_left
          · intro w' hSw; (try dsimp only at hSw); go_simp; try exact rfl
          try simp only [List.setIfInBounds_toArray, List.set_cons_zero, List.set_cons_succ]
          refine takeYes (i := 7) (d := 20) (v := ?_) rfl rfl (by kernel_rfl) (by kernel_rfl) (by kernel_rfl) (fun _ _ _ h => h) (by rfl) (by assumption) ?_ ?_
          rotate_left
          · intro w' hSw; (try dsimp only at hSw); go_simp; try exact rfl
          try simp only [List.setIfInBounds_toArray, List.set_cons_zero, List.set_cons_succ]
          refine takeYes (i := 8) (d := 21) (v := ?_) rfl rfl (by kernel_rfl) (by kernel_rfl) (by kernel_rfl) (fun _ _ _ h => h) (by rfl) (by assumption) ?_ ?_
          rotate_left
          · intro w' hSw; (try dsimp only at hSw); go_simp; try exact rfl
          try simp only [List.setIfInBounds_toArray, List.set_cons_zero, List.set_cons_succ]
          refine takeYes (i := 9) (d := 22) (v := ?_) rfl rfl (by kernel_rfl) (by kernel_rfl) (by kernel_rfl) (fun _ _ _ h => h) (by rfl) (by assumption) ?_ ?_
          rotate_left
          · intro w' hSw; (try dsimp only at hSw); go_simp; try exact rfl
          try simp only [List.setIfInBounds_toArray, List.set_cons_zero, List.set_cons_succ]
          refine takeYes (i := 10) (d := 23) (v := ?_) rfl rfl (by kernel_rfl) (by kernel_rfl) (by kernel_rfl) (fun _ _ _ h => h) (by rfl) (by assumption) ?_ ?_
          rotate_left
          · intro w' hSw; (try dsimp only at hSw); go_simp; try exact rfl
          try simp only [List.setIfInBounds_toArray, List.set_cons_zero, List.set_cons_succ]
          refine takeYes (i := 11) (d := 24) (v := ?_) rfl rfl (by kernel_rfl) (by kernel_rfl) (by kernel_rfl) (fun _ _ _ h => h) (by rfl) (by assumption) ?_ ?_
          rotate_left
          · intro w' hSw; (try dsimp only at hSw); go_simp; try exact rfl
          try simp only [List.setIfInBounds_toArray, List.set_cons_zero, List.set_cons_succ]
          refine wpAnyH_done (by kernel_rfl) ?_ _
          have hb2x : Below wr.heap.size wr w2 := by repeat (first | exact Below.refl _ _ | refine Below.drew ?_ | refine Below.alloc ?_ (by first | (simp; done) | (simp; omega) | omega) _ | refine Below.setCell ?_ (by first | (simp; done) | (simp; omega) | omega) _ | refine bstep (by assumption) (by first | (simp; done) | (simp; omega) | omega) ?_)
          go_wp2
          go_roundw
          case rel => exact ⟨2, by omega, by simp, hbrT _ hb2x, fun _ => (by first | exact hok0 | trivial), fun _ => (by first | exact ⟨hok, HW.out⟩ | exact ⟨trivial, HW.out⟩ | exact HW.out)⟩
          case measure => simp [intOf]
    · have hok0 := hk1 (by omega)
      obtain ⟨hok, rfl⟩ := hk2 (by omega)
      obtain ⟨w1, w2', w3', ac, gc⟩ := okBag_all hok0 wc
      obtain ⟨_, _, l2, ad, gd⟩ := okBag_all hok wd
      have hSm : SmallC (cs ++ ds) := ⟨fun c hc => by rcases List.mem_append.1 hc with h | h; exact (gc c h).2.2; exact (gd c h).2.2, by rw [List.length_append]; omega⟩
      have hcall := together_any W _ _ cs ds F F2 wr B d0 d1 d2 d3 hBr (ha.below hbw) (hb.below hbw) hn hn2 w2' (fun c hc => (gc c hc).1) (fun c hc => (gd c hc).1) hSm
      have HS : Hid (kk = okBag W (sumC cs ds 1)) := by rw [Hid, ← HK.out, sumOk, hok0, hok]; simp
      clear hk1 hk2 ac gc ad gd
      go_wp2_with fail
      refine Calls.mono hcall ?_
      rintro e w3 ⟨⟨xs, u, us, G, rfl, hord, hO⟩, hb3⟩
      obtain rfl := ordered_sum hok0 hok wc wd hord
      obtain ⟨P, HP⟩ : ∃ P, Hid (sumC cs ds 1 = P) := ⟨_, rfl⟩
      rw [HP.out] at hO HS
      obtain ⟨au, cu, rfl⟩ := hO.shape
      have hPw : CsWf P := by
        rw [HP.out] at hord
        exact ordered_wf hord hSm
      have hz3 := hb3.size
      have s0 := (hb3.cell (p := ⟨w.heap.size, 0, none⟩) hwr).trans r0
      have s1 := (hb3.cell (p := ⟨w.heap.size, 1, none⟩) hwr).trans r1
      have sf : ∀ q, w3.frozen? ⟨w.heap.size, q, none⟩ = false := fun q => (frozen_blk (hb3.block w.heap.size hwr)).trans (rf q)
      have hw3 : w.heap.size < w3.heap.size := by omega
      have hbw3 : Below w.heap.size w w3 := hbw.trans (hb3.mono hbw.size)
      obtain ⟨FP, hFP, _⟩ := hO.rowsF
      have hRP := hFP.is
      clear r0 r1 rf hcall d0 d1 d2 d3 hb3 hord hFP hSm
      go_wp2_with fail
      refine wp_region_held_drew (S := (fun w' => w'.cell? ⟨w3.heap.size, 0, none⟩ = some (.int .i64 W) ∧ w'.cell? ⟨w3.heap.size, 1, none⟩ = some (.slice au P.length cu))) (by kernel_rfl) ?_ (fun hHeld => ?_)
      · exact ⟨by first | (go_simp; done) | (exact cell_later (by assumption) (by go_simp)), by first | (go_simp; done) | (exact cell_later (by assumption) (by go_simp))⟩
      refine takeYes (i := 0) (d := 29) (v := ?_) rfl rfl (by kernel_rfl) (by kernel_rfl) (by kernel_rfl) (fun _ _ _ h => h) (by rfl) (by assumption) ?_ ?_
      rotate_left
      · intro w' hSw; obtain ⟨q0, q1⟩ := hSw; go_simp; try exact rfl
      try simp only [List.setIfInBounds_toArray, List.set_cons_zero, List.set_cons_succ]
      refine takeYes (i := 1) (d := 30) (v := ?_) rfl rfl (by kernel_rfl) (by kernel_rfl) (by kernel_rfl) (fun _ _ _ h => h) (by rfl) (by assumption) ?_ ?_
      rotate_left
      · intro w' hSw; obtain ⟨q0, q1⟩ := hSw; go_simp; try exact rfl
      try simp only [List.setIfInBounds_toArray, List.set_cons_zero, List.set_cons_succ]
      refine wpAnyH_ready (rs := [2]) (by kernel_rfl) (by simp) ?_
      refine AllReadyH.cons rfl (fun K hK => ?_) AllReadyH.nil
      go_simp
      go_at_call 31
      refine Calls.mono (implBagOk_any W (.slice au P.length cu) P _ hPw (hRP.below (by repeat (first | exact Below.refl _ _ | refine Below.drew ?_ | refine Below.alloc ?_ (by first | (simp; done) | (simp; omega) | omega) _ | refine Below.setCell ?_ (by first | (simp; done) | (simp; omega) | omega) _ | refine bstep (by assumption) (by first | (simp; done) | (simp; omega) | omega) ?_)))) ?_
      rw [← HS.out]
      rintro e w4 ⟨rfl, hb4⟩
      have hz4 := hb4.size
      (try simp at hz4)
      have hb4x : Below w3.heap.size w3 w4 := by repeat (first | exact Below.refl _ _ | refine Below.drew ?_ | refine Below.alloc ?_ (by first | (simp; done) | (simp; omega) | omega) _ | refine Below.setCell ?_ (by first | (simp; done) | (simp; omega) | omega) _ | refine bstep (by assumption) (by first | (simp; done) | (simp; omega) | omega) ?_)
      have s04 := (hb4x.cell (p := ⟨w.heap.size, 0, none⟩) hw3).trans s0
      have s14 := (hb4x.cell (p := ⟨w.heap.size, 1, none⟩) hw3).trans s1
      have sf4 : ∀ q, w4.frozen? ⟨w.heap.size, q, none⟩ = false := fun q => (frozen_blk (hb4x.block w.heap.size hw3)).trans (sf q)
      have hw4 : w.heap.size < w4.heap.size := by omega
      have q04 : w4.cell? ⟨w3.heap.size, 0, none⟩ = some (.int .i64 W) := cell_later hb4 (by go_simp)
      have q14 : w4.cell? ⟨w3.heap.size, 1, none⟩ = some (.slice au P.length cu) := cell_later hb4 (by go_simp)
      try go_wp2_with fail
      refine hK.out _ _ ?_ (fun hHeld2 => ?_)
      · exact ⟨by first | (go_simp; done) | (exact cell_later (by assumption) (by go_simp)), by first | (go_simp; done) | (exact cell_later (by assumption) (by go_simp))⟩
      clear hK
      refine wpAnyH_ready (rs := [3]) (by kernel_rfl) (by simp) ?_
      refine AllReadyH.cons rfl (fun K hK => ?_) AllReadyH.nil
      go_simp
      try go_wp2_with fail
      refine hK.out _ _ ?_ (fun hHeld3 => ?_)
      · exact ⟨by first | (go_simp; done) | (exact cell_later (by assumption) (by go_simp)), by first | (go_simp; done) | (exact cell_later (by assumption) (by go_simp))⟩
      clear hK
      refine takeYes (i := 4) (d := 3) (v := ?_) rfl rfl (by kernel_rfl) (by kernel_rfl) (by kernel_rfl) (fun _ _ _ h => h) (by rfl) (by assumption) ?_ ?_
      rotate_left
      · intro w' hSw; obtain ⟨q0, q1⟩ := hSw; go_simp; try exact rfl
      try simp only [List.setIfInBounds_toArray, List.set_cons_zero, List.set_cons_succ]
      refine wpAnyH_done (by kernel_rfl) ?_ _
      go_wp2
      refine bodyPost_ret (v := .tuple #[.agg #[.int .i64 W, .slice au P.length cu], .bool kk]) (by simp [results, Try.results19, go_sem, *]) rfl ⟨⟨W, _, P, us, G, by rw [HK.out], ((hO.below hb4x).keep (by simp) fun k hk _ => ?_).weak (by omega), fun _ => ⟨rfl, HP.out.symm⟩⟩, ?_⟩
      · repeat rw [Below.heap_setCell _ _ _ _ (by simp; omega)]
      · exact ((hbw3.trans (hb4x.mono hbw3.size)).setCell (by simp) _).setCell (by simp) _
end Go.Proofs.Ytooeohhkcemoiaa
/- Own text. Whether relations are a change of a database, in plain words. -/
namespace Go.Proofs.Ytooeohhkcemoiaa
open Go.RowKit
set_option linter.unusedVariables false
/-- the first relation of a name. -/
def relOf (db : List R3) (s : ByteArray) : Option R3 := db.find? fun x => x.s.toList == s.toList
theorem relOf_step {db : List R3} {s : ByteArray} {k : Nat} {x : R3} (h : db[k]? = some x) : relOf (db.drop k) s = if (x.s.toList == s.toList) = true then some x else relOf (db.drop (k + 1)) s := by
  obtain ⟨hk, rfl⟩ := List.getElem?_eq_some_iff.1 h
  unfold relOf
  rw [List.drop_eq_getElem_cons hk, List.find?_cons]
  cases (db[k].s.toList == s.toList) <;> rfl
theorem relOf_mem {db : List R3} {s : ByteArray} {x : R3} (h : relOf db s = some x) : x ∈ db := List.mem_of_find?_eq_some h
/-- whether a relation may be put to one of the database. -/
def chOne (db : List R3) (y : R3) : Bool := match relOf db y.s with
  | none => false
  | some x => sumOk x.W y.W x.cs y.cs && okPlain x.W (sumC x.cs y.cs 1)
def chAll (db : List R3) : Option R3 → List R3 → Bool
  | _, [] => true
  | p, y :: ys => okPrevR p y && chOne db y && chAll db (some y) ys
/-- whether relations are a change. -/
def okCh (db d : List R3) : Bool := okDb db && chAll db none d
theorem chAll_step {db d : List R3} {k : Nat} {y : R3} (h : d[k]? = some y) :
    chAll db (prevR d k) (d.drop k) = (okPrevR (prevR d k) y && chOne db y && chAll db (prevR d (k + 1)) (d.drop (k + 1))) := by
  obtain ⟨hk, rfl⟩ := List.getElem?_eq_some_iff.1 h
  rw [List.drop_eq_getElem_cons hk]
  simp [chAll, prevR, hk]
theorem okRs_each : ∀ {rs : List R3} {p : Option R3}, okRs p rs = true → ∀ r ∈ rs, okPlain r.W r.cs = true
  | [], _, _, c, hc => by cases hc
  | x :: r, p, h, c, hc => by
    rw [okRs, Bool.and_eq_true, Bool.and_eq_true, Bool.and_eq_true] at h
    rcases List.mem_cons.1 hc with rfl | hc
    · exact h.1.1.2
    · exact okRs_each h.2 c hc
theorem okDb_each {db : List R3} (h : okDb db = true) {x : R3} (hx : x ∈ db) : okBag x.W x.cs = true := by
  simp only [okDb, Bool.and_eq_true] at h
  have := okRs_each h.2 x hx
  simp only [okPlain, Bool.and_eq_true] at this
  exact this.2
end Go.Proofs.Ytooeohhkcemoiaa
/- Own text. The contracts of impl.ChangeOk's function value and of slices.IndexFunc with it. -/
namespace Go.Proofs.Ytooeohhkcemoiaa
open Go.RowKit
set_option linter.unusedVariables false
set_option maxHeartbeats 2000000 in
theorem changeFn_any (s : ByteArray) (nb : Nat) (u : Value) (x : R3) (w : World) (hv : w.cell? ⟨nb, 0, none⟩ = some (.string s)) (hnb : nb < w.heap.size) (hR : RowsIs w u x.cs) :
    Calls Try.prog 18 #[.agg #[.string x.s, .int .i64 x.W, u], .pointer (some ⟨nb, 0, none⟩)] w fun e w' => e = .returned (.bool (x.s.toList == s.toList)) ∧ Below w.heap.size w w' := by
  obtain ⟨a, l, c, rfl⟩ := hR.shape
  go_enter Try.func18, Try.ntmps18
  go_wp2
  go_returns
  exact ⟨rfl, by repeat (first | (with_reducible exact Below.refl _ _) | (with_reducible refine Below.drew ?_) | (with_reducible refine Below.alloc ?_ ?hh _; case hh => first | (simp; done) | (simp; omega) | omega) | (with_reducible refine Below.setCell ?_ ?hh _; case hh => first | (simp; done) | (simp; omega) | omega) | refine bstep (by assumption) (by first | (simp; done) | (simp; omega) | omega) ?_)⟩
/-- where the first relation of a name stands. -/
def IdxOf (db : List R3) (s : ByteArray) (z : Int) : Prop := (z < 0 ∧ relOf db s = none) ∨ ∃ (k : Nat) (x : R3), z = k ∧ db[k]? = some x ∧ relOf db s = some x
set_option maxHeartbeats 4000000 in
set_option maxRecDepth 100000 in
theorem indexCh_any (s : ByteArray) (nb : Nat) (v : Value) (rs : List R3) (w : World) (hv : w.cell? ⟨nb, 0, none⟩ = some (.string s)) (hnb : nb < w.heap.size) (hr : RelsIs w v rs) :
    Calls Try.prog 17 #[v, .func (.func 18) #[] #[.pointer (some ⟨nb, 0, none⟩)]] w fun e w' => (∃ z : Int, e = .returned (.int .i64 z) ∧ IdxOf rs s z) ∧ Below w.heap.size w w' := by
  obtain ⟨a, c, b, o, rfl, hl, hc, ha⟩ := hr.pick
  unfold maxLen at hc
  clear hr
  go_enter Try.func17, Try.ntmps17
  go_wp2
  go_loopw [8] (fun i wr => ∃ k : Nat, k ≤ rs.length ∧ i = .int .i64 k ∧ Below w.heap.size w wr ∧ relOf rs s = relOf (rs.drop k) s) (fun i _ => rs.length - (intOf i).toNat)
  case atStart => exact ⟨0, Nat.zero_le _, rfl, by repeat (first | (with_reducible exact Below.refl _ _) | (with_reducible refine Below.drew ?_) | (with_reducible refine Below.alloc ?_ ?hh _; case hh => first | (simp; done) | (simp; omega) | omega) | (with_reducible refine Below.setCell ?_ ?hh _; case hh => first | (simp; done) | (simp; omega) | omega) | refine bstep (by assumption) (by first | (simp; done) | (simp; omega) | omega) ?_), by simp⟩
  case round =>
    obtain ⟨k, hk, rfl, hb, heq⟩ := hrel
    have HE : Hid (relOf rs s = relOf (rs.drop k) s) := heq
    have hzb := hb.size
    have hvr := ((bcell hb).1 _ _ hnb).trans hv
    clear heq
    by_cases hlt : k < rs.length
    · obtain ⟨rfl, hblt, hLr⟩ := ha k hlt
      obtain ⟨x, u, hx, c0, c1, c2, hR, hbr⟩ := hLr.at hblt hb hlt
      have HX : Hid (rs[k]? = some x) := hx
      have HS : Hid (relOf (rs.drop k) s = if (x.s.toList == s.toList) = true then some x else relOf (rs.drop (k + 1)) s) := relOf_step hx
      have hcall := changeFn_any s nb u x wr hvr (by omega) hR
      obtain ⟨au, cu, bu, ou, rfl, _, _, _⟩ := hR.pick
      clear ha hLr hx hR hvr
      cases hh : (x.s.toList == s.toList) with
      | true =>
        rw [hh] at hcall
        have HH : Hid ((x.s.toList == s.toList) = true) := hh
        clear hh
        go_wp2_with fail
        refine Calls.mono hcall ?_
        rintro q w2 ⟨rfl, hb2⟩
        have belE : Below w.heap.size w w2 := hb.trans (hb2.mono hzb)
        clear hcall
        go_wp2_with fail
        go_returns
        exact ⟨⟨k, rfl, .inr ⟨k, x, rfl, HX.out, by rw [HE.out, HS.out, HH.out]; rfl⟩⟩, belE⟩
      | false =>
        rw [hh] at hcall
        have HH : Hid ((x.s.toList == s.toList) = false) := hh
        clear hh
        go_wp2_with fail
        refine Calls.mono hcall ?_
        rintro q w2 ⟨rfl, hb2⟩
        have belE : Below w.heap.size w w2 := hb.trans (hb2.mono hzb)
        clear hcall
        go_wp2_with fail
        exact ⟨⟨k + 1, hlt, by simp, belE, by rw [HE.out, HS.out, HH.out]; rfl⟩, by simp [intOf]; omega⟩
    · obtain rfl : k = rs.length := by omega
      have HT : Hid (relOf rs s = none) := by show _ = _; rw [HE.out, List.drop_length]; rfl
      clear ha
      go_wp2
      go_returns
      exact ⟨⟨-1, rfl, .inl ⟨by omega, HT.out⟩⟩, hb⟩
end Go.Proofs.Ytooeohhkcemoiaa
/- Own text. Relations with the blocks that they lie in; a list of relations that grows by append. -/
namespace Go.Proofs.Ytooeohhkcemoiaa
open Go.RowKit Go.Deep Go.ChangeShapes Go.WideShapes
set_option linter.unusedVariables false
/-- the relations rs lie in w from cell o of block b on, their rows in the blocks G. -/
def RLF (w : World) (b o : Nat) (rs : List R3) (G : List (List Nat)) : Prop :=
  ∀ i x g, rs[i]? = some x → G[i]? = some g → ∃ u, w.cell? ⟨b, o + i * 3, none⟩ = some (.string x.s) ∧ w.cell? ⟨b, o + i * 3 + 1, none⟩ = some (.int .i64 x.W) ∧ w.cell? ⟨b, o + i * 3 + 2, none⟩ = some u ∧ RowsF w u x.cs g
/-- the slice value v has the relations rs, in the blocks F. -/
def RelsF (w : World) (v : Value) (rs : List R3) (F : List Nat) : Prop :=
  ∃ (a : Option Addr) (c : Nat) (G : List (List Nat)), v = .slice a rs.length c ∧ rs.length ≤ c ∧ c ≤ maxLen ∧ (a = none → c = 0) ∧ G.length = rs.length ∧ (rs = [] → F = []) ∧
    (rs ≠ [] → ∃ b o, a = some ⟨b, o, none⟩ ∧ b < w.heap.size ∧ F = b :: G.flatten ∧ RLF w b o rs G)
theorem RelsF.is {w : World} {v : Value} {rs : List R3} {F : List Nat} (h : RelsF w v rs F) : RelsIs w v rs := by
  obtain ⟨a, c, G, rfl, hl, hc, _, hG, _, h⟩ := h
  refine ⟨a, c, rfl, hl, hc, fun hne => ?_⟩
  obtain ⟨b, o, rfl, hlt, _, hL⟩ := h hne
  refine ⟨b, o, rfl, hlt, fun i x hx => ?_⟩
  have hi : i < rs.length := (List.getElem?_eq_some_iff.1 hx).1
  have hi' : i < G.length := by omega
  obtain ⟨u, h0, h1, h2, h3⟩ := hL i x G[i] hx (by simp)
  exact ⟨u, h0, h1, h2, h3.is⟩
theorem RelsF.lt {w : World} {v : Value} {rs : List R3} {F : List Nat} (h : RelsF w v rs F) : ∀ b ∈ F, b < w.heap.size := by
  obtain ⟨a, c, G, rfl, hl, hc, _, hG, h0, h⟩ := h
  intro x hx
  by_cases hne : rs = []
  · rw [h0 hne] at hx; cases hx
  obtain ⟨b, o, rfl, hlt, rfl, hL⟩ := h hne
  rcases List.mem_cons.1 hx with rfl | hx
  · exact hlt
  obtain ⟨g, hg, hxg⟩ := List.mem_flatten.1 hx
  obtain ⟨i, hi, rfl⟩ := List.mem_iff_getElem.1 hg
  have hi' : i < rs.length := by omega
  obtain ⟨u, _, _, _, hk⟩ := hL i rs[i] G[i] (by simp) (by simp)
  exact hk.lt x hxg
theorem RLF.keep {w w' : World} {b o : Nat} {rs : List R3} {G : List (List Nat)} (h : RLF w b o rs G) (hs : w.heap.size ≤ w'.heap.size) (hb : w'.heap[b]? = w.heap[b]?) (hF : ∀ x ∈ G.flatten, w'.heap[x]? = w.heap[x]?) : RLF w' b o rs G := fun i x g hx hg => by
  obtain ⟨u, a0, a1, a2, a3⟩ := h i x g hx hg
  exact ⟨u, (cell_blk hb).trans a0, (cell_blk hb).trans a1, (cell_blk hb).trans a2, a3.keep hs fun y hy => hF y (List.mem_flatten.2 ⟨g, List.mem_of_getElem? hg, hy⟩)⟩
theorem RelsF.keep {w w' : World} {v : Value} {rs : List R3} {F : List Nat} (h : RelsF w v rs F) (hs : w.heap.size ≤ w'.heap.size) (hF : ∀ b ∈ F, w'.heap[b]? = w.heap[b]?) : RelsF w' v rs F := by
  obtain ⟨a, c, G, rfl, hl, hc, hz, hG, h0, h⟩ := h
  refine ⟨a, c, G, rfl, hl, hc, hz, hG, h0, fun hne => ?_⟩
  obtain ⟨b, o, rfl, hlt, rfl, hL⟩ := h hne
  exact ⟨b, o, rfl, Nat.lt_of_lt_of_le hlt hs, rfl, hL.keep hs (hF b List.mem_cons_self) fun x hx => hF x (List.mem_cons_of_mem _ hx)⟩
theorem RelsF.below {w w' : World} {v : Value} {rs : List R3} {F : List Nat} (h : RelsF w v rs F) (hb : Below w.heap.size w w') : RelsF w' v rs F := h.keep hb.size fun b hF => hb.block b (h.lt b hF)
theorem RelsF.chg {w w' : World} {v : Value} {rs : List R3} {F G : List Nat} (h : RelsF w v rs F) (hb : Chg G w w') (hd : ∀ b ∈ F, b ∉ G) : RelsF w' v rs F := h.keep hb.size fun b hF => hb.block b (h.lt b hF) (hd b hF)
theorem RelsF.pick {w : World} {v : Value} {rs : List R3} {F : List Nat} (h : RelsF w v rs F) :
    ∃ a c b o G, v = .slice a rs.length c ∧ rs.length ≤ c ∧ c ≤ maxLen ∧ (a = none → c = 0) ∧ G.length = rs.length ∧ (rs = [] → F = []) ∧ RLF w b o rs G ∧ ∀ n, n < rs.length → a = some ⟨b, o, none⟩ ∧ b < w.heap.size ∧ F = b :: G.flatten := by
  obtain ⟨a, c, G, rfl, hl, hc, hz, hG, h0, h⟩ := h
  by_cases hne : rs = []
  · exact ⟨a, c, 0, 0, G, rfl, hl, hc, hz, hG, h0, fun i x g hx => by rw [hne] at hx; simp at hx, fun k hk => by rw [hne] at hk; simp at hk⟩
  · obtain ⟨b, o, rfl, hlt, hF, hL⟩ := h hne
    exact ⟨_, c, b, o, G, rfl, hl, hc, hz, hG, h0, hL, fun _ _ => ⟨rfl, hlt, hF⟩⟩
theorem RLF.at {w w' : World} {b o : Nat} {rs : List R3} {G : List (List Nat)} (h : RLF w b o rs G) (hG : G.length = rs.length) (hlt : b < w.heap.size) (hb : Below w.heap.size w w') {k : Nat} (hk : k < rs.length) :
    ∃ x u g, rs[k]? = some x ∧ w'.cell? ⟨b, o + k * 3, none⟩ = some (.string x.s) ∧ w'.cell? ⟨b, o + k * 3 + 1, none⟩ = some (.int .i64 x.W) ∧ w'.cell? ⟨b, o + k * 3 + 2, none⟩ = some u ∧ RowsF w' u x.cs g ∧ b < w'.heap.size := by
  obtain ⟨u, h0, h1, h2, h3⟩ := h k rs[k] (G[k]'(by omega)) (by simp [hk]) (by simp)
  have hbb := hb.block b hlt
  exact ⟨rs[k], u, _, by simp [hk], (cell_blk hbb).trans h0, (cell_blk hbb).trans h1, (cell_blk hbb).trans h2, h3.below hb, Nat.lt_of_lt_of_le hlt hb.size⟩
/-- the cells of relations; us: their rows' slices. -/
def rcs (us : List Value) (rs : List R3) : List Value := (us.zip rs).flatMap fun p => [.string p.2.s, .int .i64 p.2.W, p.1]
theorem rcs_push {us : List Value} {rs : List R3} (h : us.length = rs.length) (u : Value) (x : R3) : rcs (us ++ [u]) (rs ++ [x]) = rcs us rs ++ [.string x.s, .int .i64 x.W, u] := by
  unfold rcs
  rw [List.zip_append h, List.flatMap_append]
  simp
theorem rcs_at {us : List Value} {rs : List R3} (h : us.length = rs.length) : ∀ {i : Nat} {u : Value} {x : R3}, us[i]? = some u → rs[i]? = some x → (rcs us rs)[i * 3]? = some (.string x.s) ∧ (rcs us rs)[i * 3 + 1]? = some (.int .i64 x.W) ∧ (rcs us rs)[i * 3 + 2]? = some u := by
  induction us generalizing rs with
  | nil => intro i u x hu; simp at hu
  | cons v us ih =>
    cases rs with
    | nil => simp at h
    | cons c rs =>
      intro i u x hu hx
      have e : rcs (v :: us) (c :: rs) = .string c.s :: .int .i64 c.W :: v :: rcs us rs := by unfold rcs; rw [List.zip_cons_cons, List.flatMap_cons]; rfl
      rw [e]
      cases i with
      | zero => simp at hu hx; subst hu hx; simp
      | succ i =>
        have := ih (rs := rs) (by simpa using h) (i := i) (u := u) (x := x) (by simpa using hu) (by simpa using hx)
        rw [show (i + 1) * 3 = i * 3 + 1 + 1 + 1 from by omega]
        simpa using this
/-- the slice value v has the relations rs, in memory of the call's own from N on. -/
structure RelOwn (w : World) (N : Nat) (v : Value) (rs : List R3) (us : List Value) (G : List (List Nat)) : Prop where
  own : w.ownsRow N 41 3 v rs.length (rcs us rs)
  ul : us.length = rs.length
  gl : G.length = rs.length
  row : ∀ (i : Nat) (x : R3) (u : Value) (g : List Nat), rs[i]? = some x → us[i]? = some u → G[i]? = some g → RowsF w u x.cs g
  free : Own w N G.flatten
  out : ∀ b, v.ownBlock = some b → b ∉ G.flatten
section
variable {w w' : World} {N : Nat} {v : Value} {rs : List R3} {us : List Value} {G : List (List Nat)}
theorem RelOwn.empty' {w : World} {N : Nat} (hN : N = w.heap.size) : RelOwn (w.alloc (.cells #[] 41)) N (.slice (some ⟨N, 0, none⟩) 0 0) [] [] [] := by
  subst hN
  exact ⟨⟨by simp [rcs], .inr ⟨w.heap.size, 0, #[], rfl, Nat.le_refl _, heap_alloc_new w _, Nat.le_refl _, by simp, by simp, by simp [rcs]⟩⟩, rfl, rfl, fun i x u g hx => by simp at hx, by simp [Own, Free], fun b _ => by simp⟩
theorem RelOwn.lt (h : RelOwn w N v rs us G) : ∀ b ∈ G.flatten, b < w.heap.size := by
  intro b hb
  obtain ⟨g, hg, hbg⟩ := List.mem_flatten.1 hb
  obtain ⟨i, hi, rfl⟩ := List.mem_iff_getElem.1 hg
  have h1 := h.gl
  have h2 := h.ul
  have hi1 : i < rs.length := by omega
  have hi2 : i < us.length := by omega
  exact (h.row i rs[i] us[i] G[i] (by simp) (by simp) (by simp)).lt b hbg
theorem RelOwn.keep (h : RelOwn w N v rs us G) (hs : w.heap.size ≤ w'.heap.size) (hb : ∀ b, N ≤ b → b < w.heap.size → w'.heap[b]? = w.heap[b]?) : RelOwn w' N v rs us G := by
  have hk : ∀ b ∈ G.flatten, w'.heap[b]? = w.heap[b]? := fun b hbG => hb b (h.free.2.1 b hbG) (h.lt b hbG)
  refine ⟨ownsRow_keep h.own fun b hv => hb b (ownsRow_lt h.own b hv).1 (ownsRow_lt h.own b hv).2, h.ul, h.gl, fun i x u g hx hu hg => (h.row i x u g hx hu hg).keep hs fun b hbg => hk b (List.mem_flatten.2 ⟨g, List.mem_of_getElem? hg, hbg⟩), h.free.keep hk, h.out⟩
theorem RelOwn.below (h : RelOwn w N v rs us G) (hb : Below w.heap.size w w') : RelOwn w' N v rs us G := h.keep hb.size fun b _ hlt => hb.block b hlt
theorem RelOwn.push {v' u : Value} {x : R3} {g : List Nat} (h : RelOwn w N v rs us G) (hR : RowsF w u x.cs g) (hO : Own w N g) (hd1 : ∀ b ∈ G.flatten, b ∉ g) (hd2 : ∀ b, v.ownBlock = some b → b ∉ g)
    (ho : w'.ownsRow N 41 3 v' (rs.length + 1) (rcs us rs ++ [.string x.s, .int .i64 x.W, u])) (hg : w.grownBy w' v.ownBlock) (hat : ∀ b, v'.ownBlock = some b → v.ownBlock = some b ∨ w.heap.size ≤ b) :
    RelOwn w' N v' (rs ++ [x]) (us ++ [u]) (G ++ [g]) := by
  have hG := h.lt
  have hm : ∀ b ∈ (G ++ [g]).flatten, b ∈ G.flatten ∨ b ∈ g := by intro b hb; simpa using hb
  have hlt : ∀ b ∈ (G ++ [g]).flatten, b < w.heap.size := fun b hb => (hm b hb).elim (hG b) (hR.lt b)
  have hne : ∀ b ∈ (G ++ [g]).flatten, some b ≠ v.ownBlock := fun b hb e => (hm b hb).elim (h.out b e.symm) (hd2 b e.symm)
  have hk : ∀ b ∈ (G ++ [g]).flatten, w'.heap[b]? = w.heap[b]? := fun b hb => hg.block b (hlt b hb) (hne b hb)
  refine ⟨?_, by simp [h.ul], by simp [h.gl], fun i y z q hy hz hq => ?_, ?_, fun b hb => ?_⟩
  · rw [rcs_push h.ul]; simpa using ho
  · by_cases hi : i < rs.length
    · rw [List.getElem?_append_left hi] at hy
      rw [List.getElem?_append_left (by rw [h.ul]; exact hi)] at hz
      rw [List.getElem?_append_left (by rw [h.gl]; exact hi)] at hq
      exact (h.row i y z q hy hz hq).keep hg.size fun b hb => hk b (by simp; exact .inl ⟨q, List.mem_of_getElem? hq, hb⟩)
    · have hl : i < (rs ++ [x]).length := (List.getElem?_eq_some_iff.1 hy).1
      obtain rfl : i = rs.length := by simp at hl; omega
      rw [List.getElem?_append_right (Nat.le_refl _)] at hy
      rw [List.getElem?_append_right (by rw [h.ul]; exact Nat.le_refl _)] at hz
      rw [List.getElem?_append_right (by rw [h.gl]; exact Nat.le_refl _)] at hq
      simp [h.ul, h.gl] at hy hz hq
      subst hy hz hq
      exact hR.keep hg.size fun b hb => hk b (by simp; exact .inr hb)
  · refine Own.keep (w := w) ⟨?_, fun b hb => (hm b hb).elim (h.free.2.1 b) (hO.2.1 b), fun b hb => (hm b hb).elim (h.free.2.2 b) (hO.2.2 b)⟩ hk
    rw [List.flatten_append, List.nodup_append]
    refine ⟨h.free.1, by simpa using hO.1, fun a ha b hb => ?_⟩
    rintro rfl
    exact hd1 a ha (by simpa using hb)
  · intro hx
    rcases hat b hb with e | e
    · exact hne b hx e.symm
    · have := hlt b hx; omega
theorem RelOwn.shape (h : RelOwn w N v rs us G) : ∃ a c, v = .slice a rs.length c := by
  rcases h.own.2 with ⟨rfl, h0⟩ | ⟨g, cap, cur, hv, _⟩
  · exact ⟨none, 0, by rw [h0]⟩
  · exact ⟨_, cap, hv⟩
theorem RelOwn.relsF (h : RelOwn w N v rs us G) : ∃ F, RelsF w v rs F ∧ Own w N F := by
  have hlt := ownsRow_lt h.own
  have hGl := h.lt
  by_cases hne : rs = []
  · refine ⟨[], ?_, by simp [Own, Free]⟩
    have hgl := h.gl
    subst hne
    rcases h.own.2 with ⟨rfl, _⟩ | ⟨g, cap, cur, rfl, _, _, hn, hm, _⟩
    · exact ⟨none, 0, G, rfl, Nat.le_refl _, by simp, fun _ => rfl, hgl, fun _ => rfl, fun x => absurd rfl x⟩
    · exact ⟨_, cap, G, rfl, hn, hm, (fun x => by cases x), hgl, fun _ => rfl, fun x => absurd rfl x⟩
  have hp : 0 < rs.length := List.length_pos_iff.2 hne
  obtain ⟨hl, ho⟩ := h.own
  rcases ho with ⟨_, h0⟩ | ⟨g, cap, cur, rfl, hg, hc, hn, hm, hs, ht⟩
  · omega
  have hgo : g ∉ G.flatten := h.out g rfl
  refine ⟨g :: G.flatten, ⟨_, cap, G, rfl, hn, hm, (fun x => by cases x), h.gl, fun x => absurd x hne, fun _ => ⟨g, 0, rfl, (hlt g rfl).2, rfl, fun i x q hx hq => ?_⟩⟩, List.nodup_cons.2 ⟨hgo, h.free.1⟩, fun b hb => ?_, fun b hb o => ?_⟩
  · have hi : i < rs.length := (List.getElem?_eq_some_iff.1 hx).1
    have hiu : i < us.length := by rw [h.ul]; exact hi
    obtain ⟨e0, e1, e2⟩ := rcs_at h.ul (i := i) (u := us[i]) (x := x) (by simp) hx
    have get : ∀ j u, j < rs.length * 3 → (rcs us rs)[j]? = some u → w.cell? ⟨g, j, none⟩ = some u := by
      intro j u hj hu
      simp only [World.cell?, hc]
      rw [← ht, List.getElem?_take, if_pos hj, Array.getElem?_toList] at hu
      simpa using hu
    exact ⟨us[i], by rw [Nat.zero_add]; exact get _ _ (by omega) e0, by rw [Nat.zero_add]; exact get _ _ (by omega) e1, by rw [Nat.zero_add]; exact get _ _ (by omega) e2, h.row i x us[i] q hx (by simp) hq⟩
  · rcases List.mem_cons.1 hb with rfl | hb
    · exact hg
    · exact h.free.2.1 b hb
  · rcases List.mem_cons.1 hb with rfl | hb
    · simp [World.frozen?, hc]
    · exact h.free.2.2 b hb o
end
end Go.Proofs.Ytooeohhkcemoiaa
/- Own text. The contract of impl.ChangeOk. -/
namespace Go.Proofs.Ytooeohhkcemoiaa
open Go.RowKit
set_option linter.unusedVariables false
set_option maxHeartbeats 4000000 in
set_option maxRecDepth 100000 in
theorem implChangeOk_any (vd v : Value) (db rs : List R3) (Fd Fr : List Nat) (w : World) (hdw : RsWf db) (hw : RsWf rs) (hdF : RelsF w vd db Fd) (hrF : RelsF w v rs Fr) (hn : wtR db ≤ 1048576) (hn2 : wtR rs ≤ 1048576) :
    Calls Try.prog 7 #[vd, v] w fun e w' => e = .returned (.bool (okCh db rs)) ∧ Below w.heap.size w w' := by
  have hdb := hdF.is
  obtain ⟨adb, cdb, bd, od, Gd, rfl, hld, hcd, _, hGd, _, hCd, had⟩ := hdF.pick
  have HAD : Hid (∀ n, n < db.length → adb = some ⟨bd, od, none⟩ ∧ bd < w.heap.size ∧ Fd = bd :: Gd.flatten) := had
  have HCD : Hid (RLF w bd od db Gd) := hCd
  have HGD : Hid (Gd.length = db.length) := hGd
  clear had hCd hGd
  obtain ⟨a, c, b, o, Gr, rfl, hl, hc, _, hGr, _, hCr, ha⟩ := hrF.pick
  unfold maxLen at hc hcd
  obtain ⟨bo, HO⟩ : ∃ b, Hid (okDb db = b) := ⟨_, rfl⟩
  go_enter Try.func7, Try.ntmps7
  go_wp2_with fail
  refine Calls.mono (implDbOk_any (.slice adb db.length cdb) db w hdw hdb) ?_
  rw [HO.out]
  rintro e w1 ⟨rfl, hb1⟩
  cases bo with
  | false =>
    go_wp2_with fail
    go_returns
    exact ⟨ret_bool (by simp [okCh, HO.out]), hb1⟩
  | true =>
  have HB : Hid (okCh db rs = chAll db none rs) := by simp [Hid, okCh, HO.out]
  go_wp2_with fail
  go_loopw [15] (fun i wr => ∃ (k : Nat) (q : Int), k ≤ rs.length ∧ q = k ∧ i = .int .i64 q ∧ Below w.heap.size w wr ∧ chAll db none rs = chAll db (prevR rs k) (rs.drop k)) (fun i _ => rs.length - (intOf i).toNat)
  case atStart => exact ⟨0, 0, Nat.zero_le _, rfl, rfl, hb1, by simp [prevR]⟩
  case round =>
    clear hb1
    obtain ⟨k, q, hk, hq, rfl, hb, heq⟩ := hrel
    have HE : Hid (chAll db none rs = chAll db (prevR rs k) (rs.drop k)) := heq
    have hzb := hb.size
    clear heq
    by_cases hlt : k < rs.length
    · obtain ⟨rfl, hblt, _⟩ := ha k hlt
      obtain ⟨y, u, gy, hx, c0, c1, c2, hRy, hbr⟩ := hCr.at hGr hblt hb hlt
      obtain ⟨ur, lr, cr, rfl⟩ := hRy.is.shape
      have hyn : wtb y.cs ≤ 1048576 := by have := wtr_mem (List.mem_of_getElem? hx); unfold wtr at this; unfold wtR at hn2; omega
      have hyw := (hw y (List.mem_of_getElem? hx)).2.2
      have HY : Hid (rs[k]? = some y) := hx
      have HS : Hid (chAll db (prevR rs k) (rs.drop k) = (okPrevR (prevR rs k) y && chOne db y && chAll db (prevR rs (k + 1)) (rs.drop (k + 1)))) := chAll_step hx
      rcases Nat.eq_zero_or_pos k with hk0 | hk0
      · subst hk0
        obtain rfl : q = 0 := by simpa using hq
        rw [Nat.zero_mul, Nat.add_zero] at c0 c1 c2
        have HQ : Hid (okPrevR (prevR rs 0) y = true) := rfl
        clear ha hx hq hCr hGr
        go_wp2_with fail
        go_region
        go_wp2_with fail
        refine Calls.mono (indexCh_any y.s wr.heap.size (.slice adb db.length cdb) db _ (by go_simp) (by simp) (hdb.below ?hbd)) ?_
        case hbd => repeat (first | (with_reducible exact Below.refl _ _) | (with_reducible refine Below.drew ?_) | (with_reducible refine Below.alloc ?_ ?hh _; case hh => first | (simp; done) | (simp; omega) | omega) | (with_reducible refine Below.setCell ?_ ?hh _; case hh => first | (simp; done) | (simp; omega) | omega) | refine bstep (by assumption) (by first | (simp; done) | (simp; omega) | omega) ?_)
        rintro e w2 ⟨⟨z, rfl, hz⟩, hb2⟩
        have hwr2 : Below wr.heap.size wr w2 := by
          refine Below.trans ?_ (hb2.mono ?_)
          · repeat (first | (with_reducible exact Below.refl _ _) | (with_reducible refine Below.drew ?_) | (with_reducible refine Below.alloc ?_ ?hh _; case hh => first | (simp; done) | (simp; omega) | omega) | (with_reducible refine Below.setCell ?_ ?hh _; case hh => first | (simp; done) | (simp; omega) | omega) | refine bstep (by assumption) (by first | (simp; done) | (simp; omega) | omega) ?_)
          · (simp; try omega)
        have bel2 : Below w.heap.size w w2 := hb.trans (hwr2.mono hzb)
        have hz2 := hb2.size
        simp at hz2
        have f1 : w2.cell? ⟨wr.heap.size, 1, none⟩ = some (.int .i64 y.W) := cell_later hb2 (by go_simp)
        have f2 : w2.cell? ⟨wr.heap.size, 2, none⟩ = some (.slice ur lr cr) := cell_later hb2 (by go_simp)
        have hl2 : wr.heap.size < w2.heap.size := by omega
        clear hb2
        rcases hz with ⟨hz0, hno⟩ | ⟨m, x, rfl, hmx, hsome⟩
        · have HC : Hid (chOne db y = false) := by simp [Hid, chOne, hno]
          clear hno
          go_wp2_with fail
          go_returns
          refine ⟨ret_bool ?_, bel2⟩
          rw [HB.out, HE.out, HS.out, HC.out]
          simp
        have HC : Hid (chOne db y = (sumOk x.W y.W x.cs y.cs && okPlain x.W (sumC x.cs y.cs 1))) := by simp [Hid, chOne, hsome]
        clear hsome
        have hm0 : ¬ ((m : Int) < 0) := by omega
        have hml : m < db.length := (List.getElem?_eq_some_iff.1 hmx).1
        have hmi : (m : Int) < db.length := by omega
        have hmz : (0 : Int) ≤ m := by omega
        obtain ⟨rfl, hbdlt, _⟩ := HAD.out m hml
        obtain ⟨x', ux, gx, hx', p0, p1, p2, hRx, hbx⟩ := HCD.out.at HGD.out hbdlt bel2 hml
        obtain rfl : x = x' := by rw [hmx] at hx'; simpa using hx'
        obtain ⟨au, lu, cu, rfl⟩ := hRx.is.shape
        have hxn : wtb x.cs ≤ 1048576 := by have := wtr_mem (List.mem_of_getElem? hmx); unfold wtr at this; unfold wtR at hn; omega
        have hxw := (hdw x (List.mem_of_getElem? hmx)).2.2
        have hRy2 := hRy.below hwr2
        clear hx' p0 hmx
        go_wp2_with fail
        go_cut [8, 9] (fun v8 v9 wz => ∃ (nb : Nat) (V : Int) (u : Value) (R : List C2), v8 = .pointer (some ⟨nb, 0, none⟩) ∧ v9 = .bool (sumOk x.W y.W x.cs y.cs) ∧ wz.cell? ⟨nb, 0, none⟩ = some (.int .i64 V) ∧ wz.cell? ⟨nb, 1, none⟩ = some u ∧ nb < wz.heap.size ∧ RowsIs wz u R ∧ (sumOk x.W y.W x.cs y.cs = true → V = x.W ∧ R = sumC x.cs y.cs 1) ∧ Below w2.heap.size w2 wz)
        case first =>
          go_region_with (first | (go_at_call 19; refine Calls.mono (sumOf_any x.W y.W (.slice au lu cu) (.slice ur lr cr) x.cs y.cs gx gy _ _ (by go_simp) (by go_simp) (by go_simp) (by go_simp) (by first | (simp; done) | (simp; omega)) (hRx.below (by repeat (first | (with_reducible exact Below.refl _ _) | (with_reducible refine Below.drew ?_) | (with_reducible refine Below.alloc ?_ ?hh _; case hh => first | (simp; done) | (simp; omega) | omega) | (with_reducible refine Below.setCell ?_ ?hh _; case hh => first | (simp; done) | (simp; omega) | omega) | refine bstep (by assumption) (by first | (simp; done) | (simp; omega) | omega) ?_))) (hRy2.below (by repeat (first | (with_reducible exact Below.refl _ _) | (with_reducible refine Below.drew ?_) | (with_reducible refine Below.alloc ?_ ?hh _; case hh => first | (simp; done) | (simp; omega) | omega) | (with_reducible refine Below.setCell ?_ ?hh _; case hh => first | (simp; done) | (simp; omega) | omega) | refine bstep (by assumption) (by first | (simp; done) | (simp; omega) | omega) ?_))) hxn hyn hxw hyw) ?_; rintro e w3 ⟨⟨V, u3, R, us, G, rfl, hBo, hVR⟩, hb3⟩; obtain ⟨a3, c3, rfl⟩ := hBo.shape; have hz3 := hb3.size; (try simp at hz3); have belV : Below w2.heap.size w2 w3 := Below.trans (by repeat (first | (with_reducible exact Below.refl _ _) | (with_reducible refine Below.drew ?_) | (with_reducible refine Below.alloc ?_ ?hh _; case hh => first | (simp; done) | (simp; omega) | omega) | (with_reducible refine Below.setCell ?_ ?hh _; case hh => first | (simp; done) | (simp; omega) | omega) | refine bstep (by assumption) (by first | (simp; done) | (simp; omega) | omega) ?_)) (hb3.mono (by first | (simp; done) | (simp; omega))); (try (obtain va00 : w3.cell? ⟨w2.heap.size, 0, none⟩ = some (.int .i64 0); (· (refine cell_later hb3 ?_; (first | (go_simp; done) | fail))))); (try (obtain va01 : w3.cell? ⟨w2.heap.size, 1, none⟩ = some (.slice none 0 0); (· (refine cell_later hb3 ?_; (first | (go_simp; done) | fail))))); (try (obtain vf0 : ∀ q, w3.frozen? ⟨w2.heap.size, q, none⟩ = false; (· (intro q; refine ((bcell hb3).2 _ q ?_).trans ?_; (· (first | (simp; done) | (simp; omega))); (· (first | (go_simp; done) | fail)))))); (try (obtain va10 : w3.cell? ⟨w2.heap.size + 1, 0, none⟩ = some (.int .i64 0); (· (refine cell_later hb3 ?_; (first | (go_simp; done) | fail))))); (try (obtain va11 : w3.cell? ⟨w2.heap.size + 1, 1, none⟩ = some (.slice none 0 0); (· (refine cell_later hb3 ?_; (first | (go_simp; done) | fail))))); (try (obtain vf1 : ∀ q, w3.frozen? ⟨w2.heap.size + 1, q, none⟩ = false; (· (intro q; refine ((bcell hb3).2 _ q ?_).trans ?_; (· (first | (simp; done) | (simp; omega))); (· (first | (go_simp; done) | fail))))))) | fail)
          all_goals (obtain ⟨F3, hF3, hO3⟩ := hBo.rowsF)
          all_goals (have hl3 := hF3.lt)
          all_goals (have hO3' := hO3.2.1)
          all_goals (try simp only [World.size_alloc, World.size_drew] at hO3')
          all_goals go_wp2_with fail
          all_goals (try go_meet)
          all_goals (refine ⟨_, V, .slice a3 R.length c3, R, rfl, rfl, ?_, ?_, ?_, ?_, hVR, ?_⟩)
          all_goals first | (go_simp; done) | (simp; done) | (simp; omega) | (refine (hF3.keep (by simp) fun b hb => ?_).is; have h1 := hl3 b hb; have h2 := hO3' b hb; (iterate 2 rw [Below.heap_setCell _ _ _ _ (by simp; omega)]); (try rw [Below.heap_alloc _ _ _ (by omega)]); done) | (exact hF3.is.below ((Below.refl _ _).alloc (Nat.le_refl _) _)) | (exact belV.alloc belV.size _) | (exact (belV.setCell (by simp) _).setCell (by simp) _) | (exact (belV.setCell (by simp; omega) _).setCell (by simp; omega) _)
        case rest =>
          obtain ⟨nb, V, u, R, rfl, rfl, g0, g1, hnb, hRu, hVR, hbc⟩ := hcut
          obtain ⟨a4, l4, c4, rfl⟩ := hRu.shape
          have bel3 : Below w.heap.size w wc := bel2.trans (hbc.mono bel2.size)
          clear hbc
          cases hs : sumOk x.W y.W x.cs y.cs with
          | false =>
            have HC2 : Hid (chOne db y = false) := by show _ = _; rw [HC.out, hs]; rfl
            clear hVR
            go_wp2_with fail
            go_returns
            refine ⟨ret_bool ?_, bel3⟩
            rw [HB.out, HE.out, HS.out, HC2.out]
            simp
          | true =>
            obtain ⟨e1, e2⟩ := hVR hs
            subst e1 e2
            have hss := hs
            simp only [sumOk, Bool.and_eq_true, beq_iff_eq] at hss
            obtain ⟨⟨⟨k1, k2⟩, k3⟩, k4⟩ := hss
            have hcw := sumC_wf k1 (k3 ▸ k2) hxw hyw
            have HS2 : Hid (sumOk x.W y.W x.cs y.cs = true) := hs
            clear k1 k2 k3 k4 hVR
            obtain ⟨bp, HP⟩ : ∃ b, Hid (okPlain x.W (sumC x.cs y.cs 1) = b) := ⟨_, rfl⟩
            go_wp2_with fail
            refine Calls.mono (implPlain_any x.W (.slice a4 l4 c4) (sumC x.cs y.cs 1) wc hcw hRu) ?_
            rw [HP.out]
            rintro e w4 ⟨rfl, hb4⟩
            have bel4 : Below w.heap.size w w4 := bel3.trans (hb4.mono bel3.size)
            clear hb4
            cases bp with
            | false =>
              go_wp2_with fail
              go_returns
              refine ⟨ret_bool ?_, bel4⟩
              rw [HB.out, HE.out, HS.out, HC.out, HP.out]
              simp
            | true =>
              go_wp2_with fail
              refine ⟨⟨1, 1, hlt, by omega, by simp, bel4, ?_⟩, by simp [intOf]; omega⟩
              rw [HE.out, HS.out, HQ.out, HC.out, HS2.out, HP.out]
              simp
      · obtain ⟨j, rfl⟩ : ∃ j, k = j + 1 := ⟨k - 1, by omega⟩
        obtain rfl : q = (j : Int) + 1 := by omega
        obtain ⟨z0, t0, gz, hy, d0, d1, d2', hT, _⟩ := hCr.at hGr hblt hb (show j < rs.length by omega)
        have HP0 : Hid (prevR rs (j + 1) = some z0) := prevR_succ hy
        have hw1 : IntKind.i64.wrap (j : Int) = j := by rw [IntKind.wrap_i64]; omega
        have hw2 : IntKind.i64.wrap ((j : Int) + 1 - 1) = j := by rw [IntKind.wrap_i64]; omega
        have hi0 : (0 : Int) ≤ j := by omega
        have hi1 : (j : Int) < rs.length := by omega
        have hi2 : (0 : Int) < (j : Int) + 1 := by omega
        have HQ0 : Hid (okPrevR (prevR rs (j + 1)) y = Op.bytesLess z0.s.toList y.s.toList) := by rw [HP0.out]; rfl
        clear ha hx hy hq hCr hGr d1 d2' hT
        go_wp2_with fail
        go_region_held3 (fun w' => w'.cell? ⟨wr.heap.size, 0, none⟩ = some (.string y.s) ∧ w'.cell? ⟨b, o + j * 3, none⟩ = some (.string z0.s)) (refine ⟨?_, ?_⟩ <;> first | (go_simp; done) | (exact cell_later (by assumption) (by go_simp))) (fail)
        cases hcm : Op.bytesLess z0.s.toList y.s.toList with
        | false =>
          have hcn : (!Op.bytesLess z0.s.toList y.s.toList) = true := by rw [hcm]; rfl
          have HQ1 : Hid (okPrevR (prevR rs (j + 1)) y = false) := by show _ = _; rw [HQ0.out, hcm]
          go_wp2_with fail
          go_returns
          refine ⟨ret_bool ?_, by repeat (first | (with_reducible exact Below.refl _ _) | (with_reducible refine Below.drew ?_) | (with_reducible refine Below.alloc ?_ ?hh _; case hh => first | (simp; done) | (simp; omega) | omega) | (with_reducible refine Below.setCell ?_ ?hh _; case hh => first | (simp; done) | (simp; omega) | omega) | refine bstep (by assumption) (by first | (simp; done) | (simp; omega) | omega) ?_)⟩
          rw [HB.out, HE.out, HS.out, HQ1.out]
          simp
        | true =>
          have hcn : (!Op.bytesLess z0.s.toList y.s.toList) = false := by rw [hcm]; rfl
          have HQ : Hid (okPrevR (prevR rs (j + 1)) y = true) := by show _ = _; rw [HQ0.out, hcm]
          go_wp2_with fail
          refine Calls.mono (indexCh_any y.s wr.heap.size (.slice adb db.length cdb) db _ (by go_simp) (by simp) (hdb.below ?hbd)) ?_
          case hbd => repeat (first | (with_reducible exact Below.refl _ _) | (with_reducible refine Below.drew ?_) | (with_reducible refine Below.alloc ?_ ?hh _; case hh => first | (simp; done) | (simp; omega) | omega) | (with_reducible refine Below.setCell ?_ ?hh _; case hh => first | (simp; done) | (simp; omega) | omega) | refine bstep (by assumption) (by first | (simp; done) | (simp; omega) | omega) ?_)
          rintro e w2 ⟨⟨z, rfl, hz⟩, hb2⟩
          have hwr2 : Below wr.heap.size wr w2 := by
            refine Below.trans ?_ (hb2.mono ?_)
            · repeat (first | (with_reducible exact Below.refl _ _) | (with_reducible refine Below.drew ?_) | (with_reducible refine Below.alloc ?_ ?hh _; case hh => first | (simp; done) | (simp; omega) | omega) | (with_reducible refine Below.setCell ?_ ?hh _; case hh => first | (simp; done) | (simp; omega) | omega) | refine bstep (by assumption) (by first | (simp; done) | (simp; omega) | omega) ?_)
            · (simp; try omega)
          have bel2 : Below w.heap.size w w2 := hb.trans (hwr2.mono hzb)
          have hz2 := hb2.size
          simp at hz2
          have f1 : w2.cell? ⟨wr.heap.size, 1, none⟩ = some (.int .i64 y.W) := cell_later hb2 (by go_simp)
          have f2 : w2.cell? ⟨wr.heap.size, 2, none⟩ = some (.slice ur lr cr) := cell_later hb2 (by go_simp)
          have hl2 : wr.heap.size < w2.heap.size := by omega
          clear hb2
          rcases hz with ⟨hz0, hno⟩ | ⟨m, x, rfl, hmx, hsome⟩
          · have HC : Hid (chOne db y = false) := by simp [Hid, chOne, hno]
            clear hno
            go_wp2_with fail
            go_returns
            refine ⟨ret_bool ?_, bel2⟩
            rw [HB.out, HE.out, HS.out, HC.out]
            simp
          have HC : Hid (chOne db y = (sumOk x.W y.W x.cs y.cs && okPlain x.W (sumC x.cs y.cs 1))) := by simp [Hid, chOne, hsome]
          clear hsome
          have hm0 : ¬ ((m : Int) < 0) := by omega
          have hml : m < db.length := (List.getElem?_eq_some_iff.1 hmx).1
          have hmi : (m : Int) < db.length := by omega
          have hmz : (0 : Int) ≤ m := by omega
          obtain ⟨rfl, hbdlt, _⟩ := HAD.out m hml
          obtain ⟨x', ux, gx, hx', p0, p1, p2, hRx, hbx⟩ := HCD.out.at HGD.out hbdlt bel2 hml
          obtain rfl : x = x' := by rw [hmx] at hx'; simpa using hx'
          obtain ⟨au, lu, cu, rfl⟩ := hRx.is.shape
          have hxn : wtb x.cs ≤ 1048576 := by have := wtr_mem (List.mem_of_getElem? hmx); unfold wtr at this; unfold wtR at hn; omega
          have hxw := (hdw x (List.mem_of_getElem? hmx)).2.2
          have hRy2 := hRy.below hwr2
          clear hx' p0 hmx
          go_wp2_with fail
          go_cut [8, 9] (fun v8 v9 wz => ∃ (nb : Nat) (V : Int) (u : Value) (R : List C2), v8 = .pointer (some ⟨nb, 0, none⟩) ∧ v9 = .bool (sumOk x.W y.W x.cs y.cs) ∧ wz.cell? ⟨nb, 0, none⟩ = some (.int .i64 V) ∧ wz.cell? ⟨nb, 1, none⟩ = some u ∧ nb < wz.heap.size ∧ RowsIs wz u R ∧ (sumOk x.W y.W x.cs y.cs = true → V = x.W ∧ R = sumC x.cs y.cs 1) ∧ Below w2.heap.size w2 wz)
          case first =>
            go_region_with (first | (go_at_call 19; refine Calls.mono (sumOf_any x.W y.W (.slice au lu cu) (.slice ur lr cr) x.cs y.cs gx gy _ _ (by go_simp) (by go_simp) (by go_simp) (by go_simp) (by first | (simp; done) | (simp; omega)) (hRx.below (by repeat (first | (with_reducible exact Below.refl _ _) | (with_reducible refine Below.drew ?_) | (with_reducible refine Below.alloc ?_ ?hh _; case hh => first | (simp; done) | (simp; omega) | omega) | (with_reducible refine Below.setCell ?_ ?hh _; case hh => first | (simp; done) | (simp; omega) | omega) | refine bstep (by assumption) (by first | (simp; done) | (simp; omega) | omega) ?_))) (hRy2.below (by repeat (first | (with_reducible exact Below.refl _ _) | (with_reducible refine Below.drew ?_) | (with_reducible refine Below.alloc ?_ ?hh _; case hh => first | (simp; done) | (simp; omega) | omega) | (with_reducible refine Below.setCell ?_ ?hh _; case hh => first | (simp; done) | (simp; omega) | omega) | refine bstep (by assumption) (by first | (simp; done) | (simp; omega) | omega) ?_))) hxn hyn hxw hyw) ?_; rintro e w3 ⟨⟨V, u3, R, us, G, rfl, hBo, hVR⟩, hb3⟩; obtain ⟨a3, c3, rfl⟩ := hBo.shape; have hz3 := hb3.size; (try simp at hz3); have belV : Below w2.heap.size w2 w3 := Below.trans (by repeat (first | (with_reducible exact Below.refl _ _) | (with_reducible refine Below.drew ?_) | (with_reducible refine Below.alloc ?_ ?hh _; case hh => first | (simp; done) | (simp; omega) | omega) | (with_reducible refine Below.setCell ?_ ?hh _; case hh => first | (simp; done) | (simp; omega) | omega) | refine bstep (by assumption) (by first | (simp; done) | (simp; omega) | omega) ?_)) (hb3.mono (by first | (simp; done) | (simp; omega))); (try (obtain va00 : w3.cell? ⟨w2.heap.size, 0, none⟩ = some (.int .i64 0); (· (refine cell_later hb3 ?_; (first | (go_simp; done) | fail))))); (try (obtain va01 : w3.cell? ⟨w2.heap.size, 1, none⟩ = some (.slice none 0 0); (· (refine cell_later hb3 ?_; (first | (go_simp; done) | fail))))); (try (obtain vf0 : ∀ q, w3.frozen? ⟨w2.heap.size, q, none⟩ = false; (· (intro q; refine ((bcell hb3).2 _ q ?_).trans ?_; (· (first | (simp; done) | (simp; omega))); (· (first | (go_simp; done) | fail)))))); (try (obtain va10 : w3.cell? ⟨w2.heap.size + 1, 0, none⟩ = some (.int .i64 0); (· (refine cell_later hb3 ?_; (first | (go_simp; done) | fail))))); (try (obtain va11 : w3.cell? ⟨w2.heap.size + 1, 1, none⟩ = some (.slice none 0 0); (· (refine cell_later hb3 ?_; (first | (go_simp; done) | fail))))); (try (obtain vf1 : ∀ q, w3.frozen? ⟨w2.heap.size + 1, q, none⟩ = false; (· (intro q; refine ((bcell hb3).2 _ q ?_).trans ?_; (· (first | (simp; done) | (simp; omega))); (· (first | (go_simp; done) | fail))))))) | fail)
            all_goals (obtain ⟨F3, hF3, hO3⟩ := hBo.rowsF)
            all_goals (have hl3 := hF3.lt)
            all_goals (have hO3' := hO3.2.1)
            all_goals (try simp only [World.size_alloc, World.size_drew] at hO3')
            all_goals go_wp2_with fail
            all_goals (try go_meet)
            all_goals (refine ⟨_, V, .slice a3 R.length c3, R, rfl, rfl, ?_, ?_, ?_, ?_, hVR, ?_⟩)
            all_goals first | (go_simp; done) | (simp; done) | (simp; omega) | (refine (hF3.keep (by simp) fun b hb => ?_).is; have h1 := hl3 b hb; have h2 := hO3' b hb; (iterate 2 rw [Below.heap_setCell _ _ _ _ (by simp; omega)]); (try rw [Below.heap_alloc _ _ _ (by omega)]); done) | (exact hF3.is.below ((Below.refl _ _).alloc (Nat.le_refl _) _)) | (exact belV.alloc belV.size _) | (exact (belV.setCell (by simp) _).setCell (by simp) _) | (exact (belV.setCell (by simp; omega) _).setCell (by simp; omega) _)
          case rest =>
            obtain ⟨nb, V, u, R, rfl, rfl, g0, g1, hnb, hRu, hVR, hbc⟩ := hcut
            obtain ⟨a4, l4, c4, rfl⟩ := hRu.shape
            have bel3 : Below w.heap.size w wc := bel2.trans (hbc.mono bel2.size)
            clear hbc
            cases hs : sumOk x.W y.W x.cs y.cs with
            | false =>
              have HC2 : Hid (chOne db y = false) := by show _ = _; rw [HC.out, hs]; rfl
              clear hVR
              go_wp2_with fail
              go_returns
              refine ⟨ret_bool ?_, bel3⟩
              rw [HB.out, HE.out, HS.out, HC2.out]
              simp
            | true =>
              obtain ⟨e1, e2⟩ := hVR hs
              subst e1 e2
              have hss := hs
              simp only [sumOk, Bool.and_eq_true, beq_iff_eq] at hss
              obtain ⟨⟨⟨k1, k2⟩, k3⟩, k4⟩ := hss
              have hcw := sumC_wf k1 (k3 ▸ k2) hxw hyw
              have HS2 : Hid (sumOk x.W y.W x.cs y.cs = true) := hs
              clear k1 k2 k3 k4 hVR
              obtain ⟨bp, HP⟩ : ∃ b, Hid (okPlain x.W (sumC x.cs y.cs 1) = b) := ⟨_, rfl⟩
              go_wp2_with fail
              refine Calls.mono (implPlain_any x.W (.slice a4 l4 c4) (sumC x.cs y.cs 1) wc hcw hRu) ?_
              rw [HP.out]
              rintro e w4 ⟨rfl, hb4⟩
              have bel4 : Below w.heap.size w w4 := bel3.trans (hb4.mono bel3.size)
              clear hb4
              cases bp with
              | false =>
                go_wp2_with fail
                go_returns
                refine ⟨ret_bool ?_, bel4⟩
                rw [HB.out, HE.out, HS.out, HC.out, HP.out]
                simp
              | true =>
                go_wp2_with fail
                refine ⟨⟨j + 1 + 1, (j : Int) + 1 + 1, hlt, by omega, by simp, bel4, ?_⟩, by simp [intOf]; omega⟩
                rw [HE.out, HS.out, HQ.out, HC.out, HS2.out, HP.out]
                simp

    · clear ha
      go_wp2
      go_returns
      refine ⟨ret_bool ?_, hb⟩
      rw [HB.out, HE.out, List.drop_eq_nil_of_le (by omega)]
      rfl
end Go.Proofs.Ytooeohhkcemoiaa
/- Own text. Whether relations are a database: the contract of spec.DbOk. -/
namespace Go.Proofs.Ytooeohhkcemoiaa
open Go.RowKit
set_option linter.unusedVariables false
set_option maxHeartbeats 8000000 in
set_option maxRecDepth 100000 in
theorem specDbOk_any (v : Value) (rs : List R3) (w : World) (hw : RsWf rs) (hr : RelsIs w v rs) :
    Calls Try.prog 10 #[v] w fun e w' => e = .returned (.bool (okDb rs)) ∧ Below w.heap.size w w' := by
  obtain ⟨a, c, b, o, rfl, hl, hc, ha⟩ := hr.pick
  unfold maxLen at hc
  clear hr
  go_enter Try.func10, Try.ntmps10
  go_wp2
  go_loopw [3] (fun i wr => ∃ (k : Nat) (q : Int), k ≤ rs.length ∧ q = k ∧ i = .int .i64 q ∧ Below w.heap.size w wr ∧ okRs none rs = okRs (prevR rs k) (rs.drop k)) (fun i _ => rs.length - (intOf i).toNat)
  case atStart => exact ⟨0, 0, Nat.zero_le _, rfl, rfl, by go_grown, by simp [prevR]⟩
  case round =>
    obtain ⟨k, q, hk, hq, rfl, hb, heq⟩ := hrel
    have HE : Hid (okRs none rs = okRs (prevR rs k) (rs.drop k)) := heq
    have hzb := hb.size
    clear heq
    by_cases hlt : k < rs.length
    · obtain ⟨rfl, hblt, hL⟩ := ha k hlt
      obtain ⟨x, u, hx, c0, c1, c2, hR, hbr⟩ := hL.at hblt hb hlt
      obtain ⟨ur, lr, cr, rfl⟩ := hR.shape
      obtain ⟨hxs, _, hxw⟩ := hw x (List.mem_of_getElem? hx)
      have HS : Hid (okRs (prevR rs k) (rs.drop k) = (nameB x.s && okPlain x.W x.cs && okPrevR (prevR rs k) x && okRs (prevR rs (k + 1)) (rs.drop (k + 1)))) := okRs_step hx
      by_cases hnm : nameB x.s = true
      rotate_left
      · have hf : nameB x.s = false := by simpa using hnm
        clear ha hw hL hx
        subst hq
        go_wp2_with fail
        refine wp_region_held_drew (S := (fun w' => w'.cell? ⟨b, o + k * 3, none⟩ = some (.string x.s) ∧ w'.cell? ⟨b, o + k * 3 + 1, none⟩ = some (.int .i64 x.W) ∧ w'.cell? ⟨b, o + k * 3 + 2, none⟩ = some (.slice ur lr cr))) (by kernel_rfl) ?_ (fun hHeld => ?_)
        · (try dsimp only); refine ⟨?_, ?_, ?_⟩ <;> first | (go_simp; done) | (exact cell_later (by assumption) (by go_simp))
        refine takeYes (i := 0) (d := 10) (v := ?_) rfl rfl (by kernel_rfl) (by kernel_rfl) (by kernel_rfl) (fun _ _ _ h => h) (by rfl) (by assumption) ?_ ?_
        rotate_left
        · intro w' hSw; (try dsimp only at hSw); go_simp; try exact rfl
        try simp only [List.setIfInBounds_toArray, List.set_cons_zero, List.set_cons_succ]
        refine takeYes (i := 1) (d := 11) (v := ?_) rfl rfl (by kernel_rfl) (by kernel_rfl) (by kernel_rfl) (fun _ _ _ h => h) (by rfl) (by assumption) ?_ ?_
        rotate_left
        · intro w' hSw; (try dsimp only at hSw); go_simp; try exact rfl
        try simp only [List.setIfInBounds_toArray, List.set_cons_zero, List.set_cons_succ]
        refine takeYes (i := 2) (d := 12) (v := ?_) rfl rfl (by kernel_rfl) (by kernel_rfl) (by kernel_rfl) (fun _ _ _ h => h) (by rfl) (by assumption) ?_ ?_
        rotate_left
        · intro w' hSw; (try dsimp only at hSw); go_simp; try exact rfl
        try simp only [List.setIfInBounds_toArray, List.set_cons_zero, List.set_cons_succ]
        refine takeYes (i := 3) (d := 13) (v := ?_) rfl rfl (by kernel_rfl) (by kernel_rfl) (by kernel_rfl) (fun _ _ _ h => h) (by rfl) (by assumption) ?_ ?_
        rotate_left
        · intro w' hSw; (try dsimp only at hSw); go_simp; try exact rfl
        try simp only [List.setIfInBounds_toArray, List.set_cons_zero, List.set_cons_succ]
        refine takeYes (i := 4) (d := 14) (v := ?_) rfl rfl (by kernel_rfl) (by kernel_rfl) (by kernel_rfl) (fun _ _ _ h => h) (by rfl) (by assumption) ?_ ?_
        rotate_left
        · intro w' hSw; (try dsimp only at hSw); go_simp; try exact rfl
        try simp only [List.setIfInBounds_toArray, List.set_cons_zero, List.set_cons_succ]
        refine wpAnyH_ready (rs := [5]) (by kernel_rfl) (by simp) ?_
        refine AllReadyH.cons rfl (fun K hK => ?_) AllReadyH.nil
        go_simp
        go_at_call 23
        refine (specName_any x.s _ hxs).mono ?_
        rintro e w1 ⟨rfl, rfl⟩
        try go_wp2_with fail
        refine hK.out _ _ ?_ (fun hHeld5 => ?_)
        · (try dsimp only); refine ⟨?_, ?_, ?_⟩ <;> first | (go_simp; done) | (exact cell_later (by assumption) (by go_simp))
        clear hK
        refine takeYes (i := 6) (d := 16) (v := ?_) rfl rfl (by kernel_rfl) (by kernel_rfl) (by kernel_rfl) (fun _ _ _ h => h) (by rfl) (by assumption) ?_ ?_
        rotate_left
        · intro w' hSw; (try dsimp only at hSw); go_simp; try exact rfl
        try simp only [List.setIfInBounds_toArray, List.set_cons_zero, List.set_cons_succ]
        refine takeYes (i := 7) (d := 17) (v := ?_) rfl rfl (by kernel_rfl) (by kernel_rfl) (by kernel_rfl) (fun _ _ _ h => h) (by rfl) (by assumption) ?_ ?_
        rotate_left
        · intro w' hSw; (try dsimp only at hSw); go_simp; try exact rfl
        try simp only [List.setIfInBounds_toArray, List.set_cons_zero, List.set_cons_succ]
        refine takeNo (i := 8) (d := 18) rfl rfl (by kernel_rfl) (by kernel_rfl) (by kernel_rfl) (fun _ _ _ h => h) (by rfl) (by assumption) ?_
        try simp only [List.setIfInBounds_toArray, List.set_cons_zero, List.set_cons_succ]
        refine takeNo (i := 9) (d := 19) rfl rfl (by kernel_rfl) (by kernel_rfl) (by kernel_rfl) (fun _ _ _ h => h) (by rfl) (by assumption) ?_
        try simp only [List.setIfInBounds_toArray, List.set_cons_zero, List.set_cons_succ]
        refine takeNo (i := 10) (d := 20) rfl rfl (by kernel_rfl) (by kernel_rfl) (by kernel_rfl) (fun _ _ _ h => h) (by rfl) (by assumption) ?_
        try simp only [List.setIfInBounds_toArray, List.set_cons_zero, List.set_cons_succ]
        refine takeNo (i := 11) (d := 21) rfl rfl (by kernel_rfl) (by kernel_rfl) (by kernel_rfl) (fun _ _ _ h => h) (by rfl) (by assumption) ?_
        try simp only [List.setIfInBounds_toArray, List.set_cons_zero, List.set_cons_succ]
        refine takeNo (i := 12) (d := 22) rfl rfl (by kernel_rfl) (by kernel_rfl) (by kernel_rfl) (fun _ _ _ h => h) (by rfl) (by assumption) ?_
        try simp only [List.setIfInBounds_toArray, List.set_cons_zero, List.set_cons_succ]
        refine wpAnyH_ready (rs := [13]) (by kernel_rfl) (by simp) ?_
        refine AllReadyH.cons rfl (fun K hK => ?_) AllReadyH.nil
        go_simp
        refine hK.out _ _ ?_ (fun hHeld13 => ?_)
        · (try dsimp only); refine ⟨?_, ?_, ?_⟩ <;> first | (go_simp; done) | (exact cell_later (by assumption) (by go_simp))
        clear hK
        refine takeNo (i := 14) (d := 24) rfl rfl (by kernel_rfl) (by kernel_rfl) (by kernel_rfl) (fun _ _ _ h => h) (by rfl) (by assumption) ?_
        try simp only [List.setIfInBounds_toArray, List.set_cons_zero, List.set_cons_succ]
        refine takeYes (i := 15) (d := 25) (v := ?_) rfl rfl (by kernel_rfl) (by kernel_rfl) (by kernel_rfl) (fun _ _ _ h => h) (by rfl) (by assumption) ?_ ?_
        rotate_left
        · intro w' hSw; (try dsimp only at hSw); go_simp; try exact rfl
        try simp only [List.setIfInBounds_toArray, List.set_cons_zero, List.set_cons_succ]
        refine takeYes (i := 16) (d := 26) (v := ?_) rfl rfl (by kernel_rfl) (by kernel_rfl) (by kernel_rfl) (fun _ _ _ h => h) (by rfl) (by assumption) ?_ ?_
        rotate_left
        · intro w' hSw; (try dsimp only at hSw); go_simp; try exact rfl
        try simp only [List.setIfInBounds_toArray, List.set_cons_zero, List.set_cons_succ]
        refine takeNo (i := 17) (d := 27) rfl rfl (by kernel_rfl) (by kernel_rfl) (by kernel_rfl) (fun _ _ _ h => h) (by rfl) (by assumption) ?_
        try simp only [List.setIfInBounds_toArray, List.set_cons_zero, List.set_cons_succ]
        refine takeNo (i := 18) (d := 28) rfl rfl (by kernel_rfl) (by kernel_rfl) (by kernel_rfl) (fun _ _ _ h => h) (by rfl) (by assumption) ?_
        try simp only [List.setIfInBounds_toArray, List.set_cons_zero, List.set_cons_succ]
        refine takeNo (i := 19) (d := 29) rfl rfl (by kernel_rfl) (by kernel_rfl) (by kernel_rfl) (fun _ _ _ h => h) (by rfl) (by assumption) ?_
        try simp only [List.setIfInBounds_toArray, List.set_cons_zero, List.set_cons_succ]
        refine takeNo (i := 20) (d := 30) rfl rfl (by kernel_rfl) (by kernel_rfl) (by kernel_rfl) (fun _ _ _ h => h) (by rfl) (by assumption) ?_
        try simp only [List.setIfInBounds_toArray, List.set_cons_zero, List.set_cons_succ]
        refine takeNo (i := 21) (d := 31) rfl rfl (by kernel_rfl) (by kernel_rfl) (by kernel_rfl) (fun _ _ _ h => h) (by rfl) (by assumption) ?_
        try simp only [List.setIfInBounds_toArray, List.set_cons_zero, List.set_cons_succ]
        refine takeNo (i := 22) (d := 32) rfl rfl (by kernel_rfl) (by kernel_rfl) (by kernel_rfl) (fun _ _ _ h => h) (by rfl) (by assumption) ?_
        try simp only [List.setIfInBounds_toArray, List.set_cons_zero, List.set_cons_succ]
        refine takeNo (i := 23) (d := 33) rfl rfl (by kernel_rfl) (by kernel_rfl) (by kernel_rfl) (fun _ _ _ h => h) (by rfl) (by assumption) ?_
        try simp only [List.setIfInBounds_toArray, List.set_cons_zero, List.set_cons_succ]
        refine takeNo (i := 24) (d := 34) rfl rfl (by kernel_rfl) (by kernel_rfl) (by kernel_rfl) (fun _ _ _ h => h) (by rfl) (by assumption) ?_
        try simp only [List.setIfInBounds_toArray, List.set_cons_zero, List.set_cons_succ]
        refine takeNo (i := 25) (d := 35) rfl rfl (by kernel_rfl) (by kernel_rfl) (by kernel_rfl) (fun _ _ _ h => h) (by rfl) (by assumption) ?_
        try simp only [List.setIfInBounds_toArray, List.set_cons_zero, List.set_cons_succ]
        refine takeNo (i := 26) (d := 36) rfl rfl (by kernel_rfl) (by kernel_rfl) (by kernel_rfl) (fun _ _ _ h => h) (by rfl) (by assumption) ?_
        try simp only [List.setIfInBounds_toArray, List.set_cons_zero, List.set_cons_succ]
        refine takeNo (i := 27) (d := 37) rfl rfl (by kernel_rfl) (by kernel_rfl) (by kernel_rfl) (fun _ _ _ h => h) (by rfl) (by assumption) ?_
        try simp only [List.setIfInBounds_toArray, List.set_cons_zero, List.set_cons_succ]
        refine takeNo (i := 28) (d := 38) rfl rfl (by kernel_rfl) (by kernel_rfl) (by kernel_rfl) (fun _ _ _ h => h) (by rfl) (by assumption) ?_
        try simp only [List.setIfInBounds_toArray, List.set_cons_zero, List.set_cons_succ]
        refine takeNo (i := 29) (d := 39) rfl rfl (by kernel_rfl) (by kernel_rfl) (by kernel_rfl) (fun _ _ _ h => h) (by rfl) (by assumption) ?_
        try simp only [List.setIfInBounds_toArray, List.set_cons_zero, List.set_cons_succ]
        refine takeNo (i := 30) (d := 40) rfl rfl (by kernel_rfl) (by kernel_rfl) (by kernel_rfl) (fun _ _ _ h => h) (by rfl) (by assumption) ?_
        try simp only [List.setIfInBounds_toArray, List.set_cons_zero, List.set_cons_succ]
        refine takeNo (i := 31) (d := 41) rfl rfl (by kernel_rfl) (by kernel_rfl) (by kernel_rfl) (fun _ _ _ h => h) (by rfl) (by assumption) ?_
        try simp only [List.setIfInBounds_toArray, List.set_cons_zero, List.set_cons_succ]
        refine takeNo (i := 32) (d := 42) rfl rfl (by kernel_rfl) (by kernel_rfl) (by kernel_rfl) (fun _ _ _ h => h) (by rfl) (by assumption) ?_
        try simp only [List.setIfInBounds_toArray, List.set_cons_zero, List.set_cons_succ]
        refine takeYes (i := 33) (d := 43) (v := ?_) rfl rfl (by kernel_rfl) (by kernel_rfl) (by kernel_rfl) (fun _ _ _ h => h) (by rfl) (by assumption) ?_ ?_
        rotate_left
        · intro w' hSw; (try dsimp only at hSw); go_simp; try exact rfl
        try simp only [List.setIfInBounds_toArray, List.set_cons_zero, List.set_cons_succ]
        refine wpAnyH_done (by kernel_rfl) ?_ _
        go_wp2
        go_returns
        refine ⟨ret_bool ?_, by repeat (first | exact Below.refl _ _ | refine Below.drew ?_ | refine Below.alloc ?_ (by first | (simp; done) | (simp; omega) | omega) _ | refine Below.setCell ?_ (by first | (simp; done) | (simp; omega) | omega) _ | refine bstep (by assumption) (by first | (simp; done) | (simp; omega) | omega) ?_)⟩
        unfold okDb
        rw [HE.out, HS.out, hf]
        simp
      by_cases hpl : okPlain x.W x.cs = true
      rotate_left
      · have hf : okPlain x.W x.cs = false := by simpa using hpl
        clear ha hw hL hx
        subst hq
        go_wp2_with fail
        refine wp_region_held_drew (S := (fun w' => w'.cell? ⟨b, o + k * 3, none⟩ = some (.string x.s) ∧ w'.cell? ⟨b, o + k * 3 + 1, none⟩ = some (.int .i64 x.W) ∧ w'.cell? ⟨b, o + k * 3 + 2, none⟩ = some (.slice ur lr cr))) (by kernel_rfl) ?_ (fun hHeld => ?_)
        · (try dsimp only); refine ⟨?_, ?_, ?_⟩ <;> first | (go_simp; done) | (exact cell_later (by assumption) (by go_simp))
        refine takeYes (i := 0) (d := 10) (v := ?_) rfl rfl (by kernel_rfl) (by kernel_rfl) (by kernel_rfl) (fun _ _ _ h => h) (by rfl) (by assumption) ?_ ?_
        rotate_left
        · intro w' hSw; (try dsimp only at hSw); go_simp; try exact rfl
        try simp only [List.setIfInBounds_toArray, List.set_cons_zero, List.set_cons_succ]
        refine takeYes (i := 1) (d := 11) (v := ?_) rfl rfl (by kernel_rfl) (by kernel_rfl) (by kernel_rfl) (fun _ _ _ h => h) (by rfl) (by assumption) ?_ ?_
        rotate_left
        · intro w' hSw; (try dsimp only at hSw); go_simp; try exact rfl
        try simp only [List.setIfInBounds_toArray, List.set_cons_zero, List.set_cons_succ]
        refine takeYes (i := 2) (d := 12) (v := ?_) rfl rfl (by kernel_rfl) (by kernel_rfl) (by kernel_rfl) (fun _ _ _ h => h) (by rfl) (by assumption) ?_ ?_
        rotate_left
        · intro w' hSw; (try dsimp only at hSw); go_simp; try exact rfl
        try simp only [List.setIfInBounds_toArray, List.set_cons_zero, List.set_cons_succ]
        refine takeYes (i := 3) (d := 13) (v := ?_) rfl rfl (by kernel_rfl) (by kernel_rfl) (by kernel_rfl) (fun _ _ _ h => h) (by rfl) (by assumption) ?_ ?_
        rotate_left
        · intro w' hSw; (try dsimp only at hSw); go_simp; try exact rfl
        try simp only [List.setIfInBounds_toArray, List.set_cons_zero, List.set_cons_succ]
        refine takeYes (i := 4) (d := 14) (v := ?_) rfl rfl (by kernel_rfl) (by kernel_rfl) (by kernel_rfl) (fun _ _ _ h => h) (by rfl) (by assumption) ?_ ?_
        rotate_left
        · intro w' hSw; (try dsimp only at hSw); go_simp; try exact rfl
        try simp only [List.setIfInBounds_toArray, List.set_cons_zero, List.set_cons_succ]
        refine wpAnyH_ready (rs := [5]) (by kernel_rfl) (by simp) ?_
        refine AllReadyH.cons rfl (fun K hK => ?_) AllReadyH.nil
        go_simp
        go_at_call 23
        refine (specName_any x.s _ hxs).mono ?_
        rintro e w1 ⟨rfl, rfl⟩
        try go_wp2_with fail
        refine hK.out _ _ ?_ (fun hHeld5 => ?_)
        · (try dsimp only); refine ⟨?_, ?_, ?_⟩ <;> first | (go_simp; done) | (exact cell_later (by assumption) (by go_simp))
        clear hK
        refine takeYes (i := 6) (d := 16) (v := ?_) rfl rfl (by kernel_rfl) (by kernel_rfl) (by kernel_rfl) (fun _ _ _ h => h) (by rfl) (by assumption) ?_ ?_
        rotate_left
        · intro w' hSw; (try dsimp only at hSw); go_simp; try exact rfl
        try simp only [List.setIfInBounds_toArray, List.set_cons_zero, List.set_cons_succ]
        refine takeYes (i := 7) (d := 17) (v := ?_) rfl rfl (by kernel_rfl) (by kernel_rfl) (by kernel_rfl) (fun _ _ _ h => h) (by rfl) (by assumption) ?_ ?_
        rotate_left
        · intro w' hSw; (try dsimp only at hSw); go_simp; try exact rfl
        try simp only [List.setIfInBounds_toArray, List.set_cons_zero, List.set_cons_succ]
        refine takeYes (i := 8) (d := 18) (v := ?_) rfl rfl (by kernel_rfl) (by kernel_rfl) (by kernel_rfl) (fun _ _ _ h => h) (by rfl) (by assumption) ?_ ?_
        rotate_left
        · intro w' hSw; (try dsimp only at hSw); go_simp; try exact rfl
        try simp only [List.setIfInBounds_toArray, List.set_cons_zero, List.set_cons_succ]
        refine takeYes (i := 9) (d := 19) (v := ?_) rfl rfl (by kernel_rfl) (by kernel_rfl) (by kernel_rfl) (fun _ _ _ h => h) (by rfl) (by assumption) ?_ ?_
        rotate_left
        · intro w' hSw; (try dsimp only at hSw); go_simp; try exact rfl
        try simp only [List.setIfInBounds_toArray, List.set_cons_zero, List.set_cons_succ]
        refine takeYes (i := 10) (d := 20) (v := ?_) rfl rfl (by kernel_rfl) (by kernel_rfl) (by kernel_rfl) (fun _ _ _ h => h) (by rfl) (by assumption) ?_ ?_
        rotate_left
        · intro w' hSw; (try dsimp only at hSw); go_simp; try exact rfl
        try simp only [List.setIfInBounds_toArray, List.set_cons_zero, List.set_cons_succ]
        refine takeYes (i := 11) (d := 21) (v := ?_) rfl rfl (by kernel_rfl) (by kernel_rfl) (by kernel_rfl) (fun _ _ _ h => h) (by rfl) (by assumption) ?_ ?_
        rotate_left
        · intro w' hSw; (try dsimp only at hSw); go_simp; try exact rfl
        try simp only [List.setIfInBounds_toArray, List.set_cons_zero, List.set_cons_succ]
        refine takeYes (i := 12) (d := 22) (v := ?_) rfl rfl (by kernel_rfl) (by kernel_rfl) (by kernel_rfl) (fun _ _ _ h => h) (by rfl) (by assumption) ?_ ?_
        rotate_left
        · intro w' hSw; (try dsimp only at hSw); go_simp; try exact rfl
        try simp only [List.setIfInBounds_toArray, List.set_cons_zero, List.set_cons_succ]
        refine wpAnyH_ready (rs := [13]) (by kernel_rfl) (by simp) ?_
        refine AllReadyH.cons rfl (fun K hK => ?_) AllReadyH.nil
        go_simp
        go_at_call 13
        refine Calls.mono (specPlain_any x.W (.slice ur lr cr) x.cs _ hxw (hR.below (by repeat (first | exact Below.refl _ _ | refine Below.drew ?_ | refine Below.alloc ?_ (by first | (simp; done) | (simp; omega) | omega) _ | refine Below.setCell ?_ (by first | (simp; done) | (simp; omega) | omega) _ | refine bstep (by assumption) (by first | (simp; done) | (simp; omega) | omega) ?_)))) ?_
        rintro e w2 ⟨rfl, hb2⟩
        have hz2 := hb2.size
        (try simp at hz2)
        try go_wp2_with fail
        refine hK.out _ _ ?_ (fun hHeld13 => ?_)
        · (try dsimp only); refine ⟨?_, ?_, ?_⟩ <;> first | (go_simp; done) | (exact cell_later (by assumption) (by go_simp))
        clear hK
        refine takeYes (i := 14) (d := 24) (v := ?_) rfl rfl (by kernel_rfl) (by kernel_rfl) (by kernel_rfl) (fun _ _ _ h => h) (by rfl) (by assumption) ?_ ?_
        rotate_left
        · intro w' hSw; (try dsimp only at hSw); go_simp; try exact rfl
        try simp only [List.setIfInBounds_toArray, List.set_cons_zero, List.set_cons_succ]
        refine takeYes (i := 15) (d := 25) (v := ?_) rfl rfl (by kernel_rfl) (by kernel_rfl) (by kernel_rfl) (fun _ _ _ h => h) (by rfl) (by assumption) ?_ ?_
        rotate_left
        · intro w' hSw; (try dsimp only at hSw); go_simp; try exact rfl
        try simp only [List.setIfInBounds_toArray, List.set_cons_zero, List.set_cons_succ]
        refine takeYes (i := 16) (d := 26) (v := ?_) rfl rfl (by kernel_rfl) (by kernel_rfl) (by kernel_rfl) (fun _ _ _ h => h) (by rfl) (by assumption) ?_ ?_
        rotate_left
        · intro w' hSw; (try dsimp only at hSw); go_simp; try exact rfl
        try simp only [List.setIfInBounds_toArray, List.set_cons_zero, List.set_cons_succ]
        refine takeNo (i := 17) (d := 27) rfl rfl (by kernel_rfl) (by kernel_rfl) (by kernel_rfl) (fun _ _ _ h => h) (by rfl) (by assumption) ?_
        try simp only [List.setIfInBounds_toArray, List.set_cons_zero, List.set_cons_succ]
        refine takeNo (i := 18) (d := 28) rfl rfl (by kernel_rfl) (by kernel_rfl) (by kernel_rfl) (fun _ _ _ h => h) (by rfl) (by assumption) ?_
        try simp only [List.setIfInBounds_toArray, List.set_cons_zero, List.set_cons_succ]
        refine takeNo (i := 19) (d := 29) rfl rfl (by kernel_rfl) (by kernel_rfl) (by kernel_rfl) (fun _ _ _ h => h) (by rfl) (by assumption) ?_
        try simp only [List.setIfInBounds_toArray, List.set_cons_zero, List.set_cons_succ]
        refine takeNo (i := 20) (d := 30) rfl rfl (by kernel_rfl) (by kernel_rfl) (by kernel_rfl) (fun _ _ _ h => h) (by rfl) (by assumption) ?_
        try simp only [List.setIfInBounds_toArray, List.set_cons_zero, List.set_cons_succ]
        refine takeNo (i := 21) (d := 31) rfl rfl (by kernel_rfl) (by kernel_rfl) (by kernel_rfl) (fun _ _ _ h => h) (by rfl) (by assumption) ?_
        try simp only [List.setIfInBounds_toArray, List.set_cons_zero, List.set_cons_succ]
        refine takeNo (i := 22) (d := 32) rfl rfl (by kernel_rfl) (by kernel_rfl) (by kernel_rfl) (fun _ _ _ h => h) (by rfl) (by assumption) ?_
        try simp only [List.setIfInBounds_toArray, List.set_cons_zero, List.set_cons_succ]
        refine takeNo (i := 23) (d := 33) rfl rfl (by kernel_rfl) (by kernel_rfl) (by kernel_rfl) (fun _ _ _ h => h) (by rfl) (by assumption) ?_
        try simp only [List.setIfInBounds_toArray, List.set_cons_zero, List.set_cons_succ]
        refine takeNo (i := 24) (d := 34) rfl rfl (by kernel_rfl) (by kernel_rfl) (by kernel_rfl) (fun _ _ _ h => h) (by rfl) (by assumption) ?_
        try simp only [List.setIfInBounds_toArray, List.set_cons_zero, List.set_cons_succ]
        refine takeNo (i := 25) (d := 35) rfl rfl (by kernel_rfl) (by kernel_rfl) (by kernel_rfl) (fun _ _ _ h => h) (by rfl) (by assumption) ?_
        try simp only [List.setIfInBounds_toArray, List.set_cons_zero, List.set_cons_succ]
        refine takeNo (i := 26) (d := 36) rfl rfl (by kernel_rfl) (by kernel_rfl) (by kernel_rfl) (fun _ _ _ h => h) (by rfl) (by assumption) ?_
        try simp only [List.setIfInBounds_toArray, List.set_cons_zero, List.set_cons_succ]
        refine takeNo (i := 27) (d := 37) rfl rfl (by kernel_rfl) (by kernel_rfl) (by kernel_rfl) (fun _ _ _ h => h) (by rfl) (by assumption) ?_
        try simp only [List.setIfInBounds_toArray, List.set_cons_zero, List.set_cons_succ]
        refine takeNo (i := 28) (d := 38) rfl rfl (by kernel_rfl) (by kernel_rfl) (by kernel_rfl) (fun _ _ _ h => h) (by rfl) (by assumption) ?_
        try simp only [List.setIfInBounds_toArray, List.set_cons_zero, List.set_cons_succ]
        refine takeNo (i := 29) (d := 39) rfl rfl (by kernel_rfl) (by kernel_rfl) (by kernel_rfl) (fun _ _ _ h => h) (by rfl) (by assumption) ?_
        try simp only [List.setIfInBounds_toArray, List.set_cons_zero, List.set_cons_succ]
        refine takeNo (i := 30) (d := 40) rfl rfl (by kernel_rfl) (by kernel_rfl) (by kernel_rfl) (fun _ _ _ h => h) (by rfl) (by assumption) ?_
        try simp only [List.setIfInBounds_toArray, List.set_cons_zero, List.set_cons_succ]
        refine takeNo (i := 31) (d := 41) rfl rfl (by kernel_rfl) (by kernel_rfl) (by kernel_rfl) (fun _ _ _ h => h) (by rfl) (by assumption) ?_
        try simp only [List.setIfInBounds_toArray, List.set_cons_zero, List.set_cons_succ]
        refine takeNo (i := 32) (d := 42) rfl rfl (by kernel_rfl) (by kernel_rfl) (by kernel_rfl) (fun _ _ _ h => h) (by rfl) (by assumption) ?_
        try simp only [List.setIfInBounds_toArray, List.set_cons_zero, List.set_cons_succ]
        refine takeYes (i := 33) (d := 43) (v := ?_) rfl rfl (by kernel_rfl) (by kernel_rfl) (by kernel_rfl) (fun _ _ _ h => h) (by rfl) (by assumption) ?_ ?_
        rotate_left
        · intro w' hSw; (try dsimp only at hSw); go_simp; try exact rfl
        try simp only [List.setIfInBounds_toArray, List.set_cons_zero, List.set_cons_succ]
        refine wpAnyH_done (by kernel_rfl) ?_ _
        go_wp2
        go_returns
        refine ⟨ret_bool ?_, by repeat (first | exact Below.refl _ _ | refine Below.drew ?_ | refine Below.alloc ?_ (by first | (simp; done) | (simp; omega) | omega) _ | refine Below.setCell ?_ (by first | (simp; done) | (simp; omega) | omega) _ | refine bstep (by assumption) (by first | (simp; done) | (simp; omega) | omega) ?_)⟩
        unfold okDb
        rw [HE.out, HS.out, hf]
        simp
      rcases Nat.eq_zero_or_pos k with hk0 | hk0
      · subst hk0
        obtain rfl : q = 0 := by simpa using hq
        rw [Nat.zero_mul, Nat.add_zero] at c0 c1 c2
        clear ha hw hL hx hq
        go_wp2_with fail
        refine wp_region_held_drew (S := (fun w' => w'.cell? ⟨b, o, none⟩ = some (.string x.s) ∧ w'.cell? ⟨b, o + 1, none⟩ = some (.int .i64 x.W) ∧ w'.cell? ⟨b, o + 2, none⟩ = some (.slice ur lr cr))) (by kernel_rfl) ?_ (fun hHeld => ?_)
        · (try dsimp only); refine ⟨?_, ?_, ?_⟩ <;> first | (go_simp; done) | (exact cell_later (by assumption) (by go_simp))
        refine takeYes (i := 0) (d := 10) (v := ?_) rfl rfl (by kernel_rfl) (by kernel_rfl) (by kernel_rfl) (fun _ _ _ h => h) (by rfl) (by assumption) ?_ ?_
        rotate_left
        · intro w' hSw; (try dsimp only at hSw); go_simp; try exact rfl
        try simp only [List.setIfInBounds_toArray, List.set_cons_zero, List.set_cons_succ]
        refine takeYes (i := 1) (d := 11) (v := ?_) rfl rfl (by kernel_rfl) (by kernel_rfl) (by kernel_rfl) (fun _ _ _ h => h) (by rfl) (by assumption) ?_ ?_
        rotate_left
        · intro w' hSw; (try dsimp only at hSw); go_simp; try exact rfl
        try simp only [List.setIfInBounds_toArray, List.set_cons_zero, List.set_cons_succ]
        refine takeYes (i := 2) (d := 12) (v := ?_) rfl rfl (by kernel_rfl) (by kernel_rfl) (by kernel_rfl) (fun _ _ _ h => h) (by rfl) (by assumption) ?_ ?_
        rotate_left
        · intro w' hSw; (try dsimp only at hSw); go_simp; try exact rfl
        try simp only [List.setIfInBounds_toArray, List.set_cons_zero, List.set_cons_succ]
        refine takeYes (i := 3) (d := 13) (v := ?_) rfl rfl (by kernel_rfl) (by kernel_rfl) (by kernel_rfl) (fun _ _ _ h => h) (by rfl) (by assumption) ?_ ?_
        rotate_left
        · intro w' hSw; (try dsimp only at hSw); go_simp; try exact rfl
        try simp only [List.setIfInBounds_toArray, List.set_cons_zero, List.set_cons_succ]
        refine takeYes (i := 4) (d := 14) (v := ?_) rfl rfl (by kernel_rfl) (by kernel_rfl) (by kernel_rfl) (fun _ _ _ h => h) (by rfl) (by assumption) ?_ ?_
        rotate_left
        · intro w' hSw; (try dsimp only at hSw); go_simp; try exact rfl
        try simp only [List.setIfInBounds_toArray, List.set_cons_zero, List.set_cons_succ]
        refine wpAnyH_ready (rs := [5]) (by kernel_rfl) (by simp) ?_
        refine AllReadyH.cons rfl (fun K hK => ?_) AllReadyH.nil
        go_simp
        go_at_call 23
        refine (specName_any x.s _ hxs).mono ?_
        rintro e w1 ⟨rfl, rfl⟩
        try go_wp2_with fail
        refine hK.out _ _ ?_ (fun hHeld5 => ?_)
        · (try dsimp only); refine ⟨?_, ?_, ?_⟩ <;> first | (go_simp; done) | (exact cell_later (by assumption) (by go_simp))
        clear hK
        refine takeYes (i := 6) (d := 16) (v := ?_) rfl rfl (by kernel_rfl) (by kernel_rfl) (by kernel_rfl) (fun _ _ _ h => h) (by rfl) (by assumption) ?_ ?_
        rotate_left
        · intro w' hSw; (try dsimp only at hSw); go_simp; try exact rfl
        try simp only [List.setIfInBounds_toArray, List.set_cons_zero, List.set_cons_succ]
        refine takeYes (i := 7) (d := 17) (v := ?_) rfl rfl (by kernel_rfl) (by kernel_rfl) (by kernel_rfl) (fun _ _ _ h => h) (by rfl) (by assumption) ?_ ?_
        rotate_left
        · intro w' hSw; (try dsimp only at hSw); go_simp; try exact rfl
        try simp only [List.setIfInBounds_toArray, List.set_cons_zero, List.set_cons_succ]
        refine takeYes (i := 8) (d := 18) (v := ?_) rfl rfl (by kernel_rfl) (by kernel_rfl) (by kernel_rfl) (fun _ _ _ h => h) (by rfl) (by assumption) ?_ ?_
        rotate_left
        · intro w' hSw; (try dsimp only at hSw); go_simp; try exact rfl
        try simp only [List.setIfInBounds_toArray, List.set_cons_zero, List.set_cons_succ]
        refine takeYes (i := 9) (d := 19) (v := ?_) rfl rfl (by kernel_rfl) (by kernel_rfl) (by kernel_rfl) (fun _ _ _ h => h) (by rfl) (by assumption) ?_ ?_
        rotate_left
        · intro w' hSw; (try dsimp only at hSw); go_simp; try exact rfl
        try simp only [List.setIfInBounds_toArray, List.set_cons_zero, List.set_cons_succ]
        refine takeYes (i := 10) (d := 20) (v := ?_) rfl rfl (by kernel_rfl) (by kernel_rfl) (by kernel_rfl) (fun _ _ _ h => h) (by rfl) (by assumption) ?_ ?_
        rotate_left
        · intro w' hSw; (try dsimp only at hSw); go_simp; try exact rfl
        try simp only [List.setIfInBounds_toArray, List.set_cons_zero, List.set_cons_succ]
        refine takeYes (i := 11) (d := 21) (v := ?_) rfl rfl (by kernel_rfl) (by kernel_rfl) (by kernel_rfl) (fun _ _ _ h => h) (by rfl) (by assumption) ?_ ?_
        rotate_left
        · intro w' hSw; (try dsimp only at hSw); go_simp; try exact rfl
        try simp only [List.setIfInBounds_toArray, List.set_cons_zero, List.set_cons_succ]
        refine takeYes (i := 12) (d := 22) (v := ?_) rfl rfl (by kernel_rfl) (by kernel_rfl) (by kernel_rfl) (fun _ _ _ h => h) (by rfl) (by assumption) ?_ ?_
        rotate_left
        · intro w' hSw; (try dsimp only at hSw); go_simp; try exact rfl
        try simp only [List.setIfInBounds_toArray, List.set_cons_zero, List.set_cons_succ]
        refine wpAnyH_ready (rs := [13]) (by kernel_rfl) (by simp) ?_
        refine AllReadyH.cons rfl (fun K hK => ?_) AllReadyH.nil
        go_simp
        go_at_call 13
        refine Calls.mono (specPlain_any x.W (.slice ur lr cr) x.cs _ hxw (hR.below (by repeat (first | exact Below.refl _ _ | refine Below.drew ?_ | refine Below.alloc ?_ (by first | (simp; done) | (simp; omega) | omega) _ | refine Below.setCell ?_ (by first | (simp; done) | (simp; omega) | omega) _ | refine bstep (by assumption) (by first | (simp; done) | (simp; omega) | omega) ?_)))) ?_
        rintro e w2 ⟨rfl, hb2⟩
        have hz2 := hb2.size
        (try simp at hz2)
        try go_wp2_with fail
        refine hK.out _ _ ?_ (fun hHeld13 => ?_)
        · (try dsimp only); refine ⟨?_, ?_, ?_⟩ <;> first | (go_simp; done) | (exact cell_later (by assumption) (by go_simp))
        clear hK
        refine takeYes (i := 14) (d := 24) (v := ?_) rfl rfl (by kernel_rfl) (by kernel_rfl) (by kernel_rfl) (fun _ _ _ h => h) (by rfl) (by assumption) ?_ ?_
        rotate_left
        · intro w' hSw; (try dsimp only at hSw); go_simp; try exact rfl
        try simp only [List.setIfInBounds_toArray, List.set_cons_zero, List.set_cons_succ]
        refine takeYes (i := 15) (d := 25) (v := ?_) rfl rfl (by kernel_rfl) (by kernel_rfl) (by kernel_rfl) (fun _ _ _ h => h) (by rfl) (by assumption) ?_ ?_
        rotate_left
        · intro w' hSw; (try dsimp only at hSw); go_simp; try exact rfl
        try simp only [List.setIfInBounds_toArray, List.set_cons_zero, List.set_cons_succ]
        refine takeYes (i := 16) (d := 26) (v := ?_) rfl rfl (by kernel_rfl) (by kernel_rfl) (by kernel_rfl) (fun _ _ _ h => h) (by rfl) (by assumption) ?_ ?_
        rotate_left
        · intro w' hSw; (try dsimp only at hSw); go_simp; try exact rfl
        try simp only [List.setIfInBounds_toArray, List.set_cons_zero, List.set_cons_succ]
        refine takeYes (i := 17) (d := 27) (v := ?_) rfl rfl (by kernel_rfl) (by kernel_rfl) (by kernel_rfl) (fun _ _ _ h => h) (by rfl) (by assumption) ?_ ?_
        rotate_left
        · intro w' hSw; (try dsimp only at hSw); go_simp; try exact rfl
        try simp only [List.setIfInBounds_toArray, List.set_cons_zero, List.set_cons_succ]
        refine takeYes (i := 18) (d := 28) (v := ?_) rfl rfl (by kernel_rfl) (by kernel_rfl) (by kernel_rfl) (fun _ _ _ h => h) (by rfl) (by assumption) ?_ ?_
        rotate_left
        · intro w' hSw; (try dsimp only at hSw); go_simp; try exact rfl
        try simp only [List.setIfInBounds_toArray, List.set_cons_zero, List.set_cons_succ]
        refine takeYes (i := 19) (d := 29) (v := ?_) rfl rfl (by kernel_rfl) (by kernel_rfl) (by kernel_rfl) (fun _ _ _ h => h) (by rfl) (by assumption) ?_ ?_
        rotate_left
        · intro w' hSw; (try dsimp only at hSw); go_simp; try exact rfl
        try simp only [List.setIfInBounds_toArray, List.set_cons_zero, List.set_cons_succ]
        refine takeNo (i := 20) (d := 30) rfl rfl (by kernel_rfl) (by kernel_rfl) (by kernel_rfl) (fun _ _ _ h => h) (by rfl) (by assumption) ?_
        try simp only [List.setIfInBounds_toArray, List.set_cons_zero, List.set_cons_succ]
        refine takeNo (i := 21) (d := 31) rfl rfl (by kernel_rfl) (by kernel_rfl) (by kernel_rfl) (fun _ _ _ h => h) (by rfl) (by assumption) ?_
        try simp only [List.setIfInBounds_toArray, List.set_cons_zero, List.set_cons_succ]
        refine takeNo (i := 22) (d := 32) rfl rfl (by kernel_rfl) (by kernel_rfl) (by kernel_rfl) (fun _ _ _ h => h) (by rfl) (by assumption) ?_
        try simp only [List.setIfInBounds_toArray, List.set_cons_zero, List.set_cons_succ]
        refine takeNo (i := 23) (d := 33) rfl rfl (by kernel_rfl) (by kernel_rfl) (by kernel_rfl) (fun _ _ _ h => h) (by rfl) (by assumption) ?_
        try simp only [List.setIfInBounds_toArray, List.set_cons_zero, List.set_cons_succ]
        refine takeNo (i := 24) (d := 34) rfl rfl (by kernel_rfl) (by kernel_rfl) (by kernel_rfl) (fun _ _ _ h => h) (by rfl) (by assumption) ?_
        try simp only [List.setIfInBounds_toArray, List.set_cons_zero, List.set_cons_succ]
        refine takeNo (i := 25) (d := 35) rfl rfl (by kernel_rfl) (by kernel_rfl) (by kernel_rfl) (fun _ _ _ h => h) (by rfl) (by assumption) ?_
        try simp only [List.setIfInBounds_toArray, List.set_cons_zero, List.set_cons_succ]
        refine takeNo (i := 26) (d := 36) rfl rfl (by kernel_rfl) (by kernel_rfl) (by kernel_rfl) (fun _ _ _ h => h) (by rfl) (by assumption) ?_
        try simp only [List.setIfInBounds_toArray, List.set_cons_zero, List.set_cons_succ]
        refine takeNo (i := 27) (d := 37) rfl rfl (by kernel_rfl) (by kernel_rfl) (by kernel_rfl) (fun _ _ _ h => h) (by rfl) (by assumption) ?_
        try simp only [List.setIfInBounds_toArray, List.set_cons_zero, List.set_cons_succ]
        refine takeNo (i := 28) (d := 38) rfl rfl (by kernel_rfl) (by kernel_rfl) (by kernel_rfl) (fun _ _ _ h => h) (by rfl) (by assumption) ?_
        try simp only [List.setIfInBounds_toArray, List.set_cons_zero, List.set_cons_succ]
        refine takeNo (i := 29) (d := 39) rfl rfl (by kernel_rfl) (by kernel_rfl) (by kernel_rfl) (fun _ _ _ h => h) (by rfl) (by assumption) ?_
        try simp only [List.setIfInBounds_toArray, List.set_cons_zero, List.set_cons_succ]
        refine takeNo (i := 30) (d := 40) rfl rfl (by kernel_rfl) (by kernel_rfl) (by kernel_rfl) (fun _ _ _ h => h) (by rfl) (by assumption) ?_
        try simp only [List.setIfInBounds_toArray, List.set_cons_zero, List.set_cons_succ]
        refine takeNo (i := 31) (d := 41) rfl rfl (by kernel_rfl) (by kernel_rfl) (by kernel_rfl) (fun _ _ _ h => h) (by rfl) (by assumption) ?_
        try simp only [List.setIfInBounds_toArray, List.set_cons_zero, List.set_cons_succ]
        refine takeYes (i := 32) (d := 42) (v := ?_) rfl rfl (by kernel_rfl) (by kernel_rfl) (by kernel_rfl) (fun _ _ _ h => h) (by rfl) (by assumption) ?_ ?_
        rotate_left
        · intro w' hSw; (try dsimp only at hSw); go_simp; try exact rfl
        try simp only [List.setIfInBounds_toArray, List.set_cons_zero, List.set_cons_succ]
        refine takeYes (i := 33) (d := 43) (v := ?_) rfl rfl (by kernel_rfl) (by kernel_rfl) (by kernel_rfl) (fun _ _ _ h => h) (by rfl) (by assumption) ?_ ?_
        rotate_left
        · intro w' hSw; (try dsimp only at hSw); go_simp; try exact rfl
        try simp only [List.setIfInBounds_toArray, List.set_cons_zero, List.set_cons_succ]
        refine wpAnyH_done (by kernel_rfl) ?_ _
        go_wp2
        go_roundw
        case rel =>
          refine ⟨1, 1, hlt, rfl, by simp, by repeat (first | exact Below.refl _ _ | refine Below.drew ?_ | refine Below.alloc ?_ (by first | (simp; done) | (simp; omega) | omega) _ | refine Below.setCell ?_ (by first | (simp; done) | (simp; omega) | omega) _ | refine bstep (by assumption) (by first | (simp; done) | (simp; omega) | omega) ?_), ?_⟩
          rw [HE.out, HS.out, hnm, hpl, prevR_zero]
          simp [okPrevR]
        case measure => simp [intOf]; omega
      · obtain ⟨j, rfl⟩ : ∃ j, k = j + 1 := ⟨k - 1, by omega⟩
        obtain rfl : q = (j : Int) + 1 := by omega
        obtain ⟨y, t, hy, d0, d1, d2', hT, _⟩ := hL.at hblt hb (show j < rs.length by omega)
        have HP : Hid (prevR rs (j + 1) = some y) := prevR_succ hy
        have HQ : Hid (okPrevR (prevR rs (j + 1)) x = Op.bytesLess y.s.toList x.s.toList) := by rw [HP.out]; rfl
        have hw1 : IntKind.i64.wrap (j : Int) = j := by rw [IntKind.wrap_i64]; omega
        have hw2 : IntKind.i64.wrap ((j : Int) + 1 - 1) = j := by rw [IntKind.wrap_i64]; omega
        have hi0 : (0 : Int) ≤ j := by omega
        have hi1 : (j : Int) < rs.length := by omega
        have hi2 : (0 : Int) < (j : Int) + 1 := by omega
        clear ha hw hL hx hy hq d1 d2' hT
        go_wp2_with fail
        refine wp_region_held_drew (S := (fun w' => w'.cell? ⟨b, o + (j + 1) * 3, none⟩ = some (.string x.s) ∧ w'.cell? ⟨b, o + (j + 1) * 3 + 1, none⟩ = some (.int .i64 x.W) ∧ w'.cell? ⟨b, o + (j + 1) * 3 + 2, none⟩ = some (.slice ur lr cr) ∧ w'.cell? ⟨b, o + j * 3, none⟩ = some (.string y.s))) (by kernel_rfl) ?_ (fun hHeld => ?_)
        · (try dsimp only); refine ⟨?_, ?_, ?_, ?_⟩ <;> first | (go_simp; done) | (exact cell_later (by assumption) (by go_simp))
        refine takeYes (i := 0) (d := 10) (v := ?_) rfl rfl (by kernel_rfl) (by kernel_rfl) (by kernel_rfl) (fun _ _ _ h => h) (by rfl) (by assumption) ?_ ?_
        rotate_left
        · intro w' hSw; (try dsimp only at hSw); go_simp; try exact rfl
        try simp only [List.setIfInBounds_toArray, List.set_cons_zero, List.set_cons_succ]
        refine takeYes (i := 1) (d := 11) (v := ?_) rfl rfl (by kernel_rfl) (by kernel_rfl) (by kernel_rfl) (fun _ _ _ h => h) (by rfl) (by assumption) ?_ ?_
        rotate_left
        · intro w' hSw; (try dsimp only at hSw); go_simp; try exact rfl
        try simp only [List.setIfInBounds_toArray, List.set_cons_zero, List.set_cons_succ]
        refine takeYes (i := 2) (d := 12) (v := ?_) rfl rfl (by kernel_rfl) (by kernel_rfl) (by kernel_rfl) (fun _ _ _ h => h) (by rfl) (by assumption) ?_ ?_
        rotate_left
        · intro w' hSw; (try dsimp only at hSw); go_simp; try exact rfl
        try simp only [List.setIfInBounds_toArray, List.set_cons_zero, List.set_cons_succ]
        refine takeYes (i := 3) (d := 13) (v := ?_) rfl rfl (by kernel_rfl) (by kernel_rfl) (by kernel_rfl) (fun _ _ _ h => h) (by rfl) (by assumption) ?_ ?_
        rotate_left
        · intro w' hSw; (try dsimp only at hSw); go_simp; try exact rfl
        try simp only [List.setIfInBounds_toArray, List.set_cons_zero, List.set_cons_succ]
        refine takeYes (i := 4) (d := 14) (v := ?_) rfl rfl (by kernel_rfl) (by kernel_rfl) (by kernel_rfl) (fun _ _ _ h => h) (by rfl) (by assumption) ?_ ?_
        rotate_left
        · intro w' hSw; (try dsimp only at hSw); go_simp; try exact rfl
        try simp only [List.setIfInBounds_toArray, List.set_cons_zero, List.set_cons_succ]
        refine wpAnyH_ready (rs := [5]) (by kernel_rfl) (by simp) ?_
        refine AllReadyH.cons rfl (fun K hK => ?_) AllReadyH.nil
        go_simp
        go_at_call 23
        refine (specName_any x.s _ hxs).mono ?_
        rintro e w1 ⟨rfl, rfl⟩
        try go_wp2_with fail
        refine hK.out _ _ ?_ (fun hHeld5 => ?_)
        · (try dsimp only); refine ⟨?_, ?_, ?_, ?_⟩ <;> first | (go_simp; done) | (exact cell_later (by assumption) (by go_simp))
        clear hK
        refine takeYes (i := 6) (d := 16) (v := ?_) rfl rfl (by kernel_rfl) (by kernel_rfl) (by kernel_rfl) (fun _ _ _ h => h) (by rfl) (by assumption) ?_ ?_
        rotate_left
        · intro w' hSw; (try dsimp only at hSw); go_simp; try exact rfl
        try simp only [List.setIfInBounds_toArray, List.set_cons_zero, List.set_cons_succ]
        refine takeYes (i := 7) (d := 17) (v := ?_) rfl rfl (by kernel_rfl) (by kernel_rfl) (by kernel_rfl) (fun _ _ _ h => h) (by rfl) (by assumption) ?_ ?_
        rotate_left
        · intro w' hSw; (try dsimp only at hSw); go_simp; try exact rfl
        try simp only [List.setIfInBounds_toArray, List.set_cons_zero, List.set_cons_succ]
        refine takeYes (i := 8) (d := 18) (v := ?_) rfl rfl (by kernel_rfl) (by kernel_rfl) (by kernel_rfl) (fun _ _ _ h => h) (by rfl) (by assumption) ?_ ?_
        rotate_left
        · intro w' hSw; (try dsimp only at hSw); go_simp; try exact rfl
        try simp only [List.setIfInBounds_toArray, List.set_cons_zero, List.set_cons_succ]
        refine takeYes (i := 9) (d := 19) (v := ?_) rfl rfl (by kernel_rfl) (by kernel_rfl) (by kernel_rfl) (fun _ _ _ h => h) (by rfl) (by assumption) ?_ ?_
        rotate_left
        · intro w' hSw; (try dsimp only at hSw); go_simp; try exact rfl
        try simp only [List.setIfInBounds_toArray, List.set_cons_zero, List.set_cons_succ]
        refine takeYes (i := 10) (d := 20) (v := ?_) rfl rfl (by kernel_rfl) (by kernel_rfl) (by kernel_rfl) (fun _ _ _ h => h) (by rfl) (by assumption) ?_ ?_
        rotate_left
        · intro w' hSw; (try dsimp only at hSw); go_simp; try exact rfl
        try simp only [List.setIfInBounds_toArray, List.set_cons_zero, List.set_cons_succ]
        refine takeYes (i := 11) (d := 21) (v := ?_) rfl rfl (by kernel_rfl) (by kernel_rfl) (by kernel_rfl) (fun _ _ _ h => h) (by rfl) (by assumption) ?_ ?_
        rotate_left
        · intro w' hSw; (try dsimp only at hSw); go_simp; try exact rfl
        try simp only [List.setIfInBounds_toArray, List.set_cons_zero, List.set_cons_succ]
        refine takeYes (i := 12) (d := 22) (v := ?_) rfl rfl (by kernel_rfl) (by kernel_rfl) (by kernel_rfl) (fun _ _ _ h => h) (by rfl) (by assumption) ?_ ?_
        rotate_left
        · intro w' hSw; (try dsimp only at hSw); go_simp; try exact rfl
        try simp only [List.setIfInBounds_toArray, List.set_cons_zero, List.set_cons_succ]
        refine wpAnyH_ready (rs := [13]) (by kernel_rfl) (by simp) ?_
        refine AllReadyH.cons rfl (fun K hK => ?_) AllReadyH.nil
        go_simp
        go_at_call 13
        refine Calls.mono (specPlain_any x.W (.slice ur lr cr) x.cs _ hxw (hR.below (by repeat (first | exact Below.refl _ _ | refine Below.drew ?_ | refine Below.alloc ?_ (by first | (simp; done) | (simp; omega) | omega) _ | refine Below.setCell ?_ (by first | (simp; done) | (simp; omega) | omega) _ | refine bstep (by assumption) (by first | (simp; done) | (simp; omega) | omega) ?_)))) ?_
        rintro e w2 ⟨rfl, hb2⟩
        have hz2 := hb2.size
        (try simp at hz2)
        try go_wp2_with fail
        refine hK.out _ _ ?_ (fun hHeld13 => ?_)
        · (try dsimp only); refine ⟨?_, ?_, ?_, ?_⟩ <;> first | (go_simp; done) | (exact cell_later (by assumption) (by go_simp))
        clear hK
        refine takeYes (i := 14) (d := 24) (v := ?_) rfl rfl (by kernel_rfl) (by kernel_rfl) (by kernel_rfl) (fun _ _ _ h => h) (by rfl) (by assumption) ?_ ?_
        rotate_left
        · intro w' hSw; (try dsimp only at hSw); go_simp; try exact rfl
        try simp only [List.setIfInBounds_toArray, List.set_cons_zero, List.set_cons_succ]
        refine takeYes (i := 15) (d := 25) (v := ?_) rfl rfl (by kernel_rfl) (by kernel_rfl) (by kernel_rfl) (fun _ _ _ h => h) (by rfl) (by assumption) ?_ ?_
        rotate_left
        · intro w' hSw; (try dsimp only at hSw); go_simp; try exact rfl
        try simp only [List.setIfInBounds_toArray, List.set_cons_zero, List.set_cons_succ]
        refine takeYes (i := 16) (d := 26) (v := ?_) rfl rfl (by kernel_rfl) (by kernel_rfl) (by kernel_rfl) (fun _ _ _ h => h) (by rfl) (by assumption) ?_ ?_
        rotate_left
        · intro w' hSw; (try dsimp only at hSw); go_simp; try exact rfl
        try simp only [List.setIfInBounds_toArray, List.set_cons_zero, List.set_cons_succ]
        refine takeYes (i := 17) (d := 27) (v := ?_) rfl rfl (by kernel_rfl) (by kernel_rfl) (by kernel_rfl) (fun _ _ _ h => h) (by rfl) (by assumption) ?_ ?_
        rotate_left
        · intro w' hSw; (try dsimp only at hSw); go_simp; try exact rfl
        try simp only [List.setIfInBounds_toArray, List.set_cons_zero, List.set_cons_succ]
        refine takeYes (i := 18) (d := 28) (v := ?_) rfl rfl (by kernel_rfl) (by kernel_rfl) (by kernel_rfl) (fun _ _ _ h => h) (by rfl) (by assumption) ?_ ?_
        rotate_left
        · intro w' hSw; (try dsimp only at hSw); go_simp; try exact rfl
        try simp only [List.setIfInBounds_toArray, List.set_cons_zero, List.set_cons_succ]
        refine takeYes (i := 19) (d := 29) (v := ?_) rfl rfl (by kernel_rfl) (by kernel_rfl) (by kernel_rfl) (fun _ _ _ h => h) (by rfl) (by assumption) ?_ ?_
        rotate_left
        · intro w' hSw; (try dsimp only at hSw); go_simp; try exact rfl
        try simp only [List.setIfInBounds_toArray, List.set_cons_zero, List.set_cons_succ]
        refine takeYes (i := 20) (d := 30) (v := ?_) rfl rfl (by kernel_rfl) (by kernel_rfl) (by kernel_rfl) (fun _ _ _ h => h) (by rfl) (by assumption) ?_ ?_
        rotate_left
        · intro w' hSw; (try dsimp only at hSw); go_simp; try exact rfl
        try simp only [List.setIfInBounds_toArray, List.set_cons_zero, List.set_cons_succ]
        refine takeYes (i := 21) (d := 31) (v := ?_) rfl rfl (by kernel_rfl) (by kernel_rfl) (by kernel_rfl) (fun _ _ _ h => h) (by rfl) (by assumption) ?_ ?_
        rotate_left
        · intro w' hSw; (try dsimp only at hSw); go_simp; try exact rfl
        try simp only [List.setIfInBounds_toArray, List.set_cons_zero, List.set_cons_succ]
        refine takeYes (i := 22) (d := 32) (v := ?_) rfl rfl (by kernel_rfl) (by kernel_rfl) (by kernel_rfl) (fun _ _ _ h => h) (by rfl) (by assumption) ?_ ?_
        rotate_left
        · intro w' hSw; (try dsimp only at hSw); go_simp; try exact rfl
        try simp only [List.setIfInBounds_toArray, List.set_cons_zero, List.set_cons_succ]
        refine takeYes (i := 23) (d := 33) (v := ?_) rfl rfl (by kernel_rfl) (by kernel_rfl) (by kernel_rfl) (fun _ _ _ h => h) (by rfl) (by assumption) ?_ ?_
        rotate_left
        · intro w' hSw; (try dsimp only at hSw); go_simp; try exact rfl
        try simp only [List.setIfInBounds_toArray, List.set_cons_zero, List.set_cons_succ]
        refine takeYes (i := 24) (d := 34) (v := ?_) rfl rfl (by kernel_rfl) (by kernel_rfl) (by kernel_rfl) (fun _ _ _ h => h) (by rfl) (by assumption) ?_ ?_
        rotate_left
        · intro w' hSw; (try dsimp only at hSw); go_simp; try exact rfl
        try simp only [List.setIfInBounds_toArray, List.set_cons_zero, List.set_cons_succ]
        refine takeYes (i := 25) (d := 35) (v := ?_) rfl rfl (by kernel_rfl) (by kernel_rfl) (by kernel_rfl) (fun _ _ _ h => h) (by rfl) (by assumption) ?_ ?_
        rotate_left
        · intro w' hSw; (try dsimp only at hSw); go_simp; try exact rfl
        try simp only [List.setIfInBounds_toArray, List.set_cons_zero, List.set_cons_succ]
        refine takeYes (i := 26) (d := 36) (v := ?_) rfl rfl (by kernel_rfl) (by kernel_rfl) (by kernel_rfl) (fun _ _ _ h => h) (by rfl) (by assumption) ?_ ?_
        rotate_left
        · intro w' hSw; (try dsimp only at hSw); go_simp; try exact rfl
        try simp only [List.setIfInBounds_toArray, List.set_cons_zero, List.set_cons_succ]
        refine takeYes (i := 27) (d := 37) (v := ?_) rfl rfl (by kernel_rfl) (by kernel_rfl) (by kernel_rfl) (fun _ _ _ h => h) (by rfl) (by assumption) ?_ ?_
        rotate_left
        · intro w' hSw; (try dsimp only at hSw); go_simp; try exact rfl
        try simp only [List.setIfInBounds_toArray, List.set_cons_zero, List.set_cons_succ]
        refine takeYes (i := 28) (d := 38) (v := ?_) rfl rfl (by kernel_rfl) (by kernel_rfl) (by kernel_rfl) (fun _ _ _ h => h) (by rfl) (by assumption) ?_ ?_
        rotate_left
        · intro w' hSw; (try dsimp only at hSw); go_simp; try exact rfl
        try simp only [List.setIfInBounds_toArray, List.set_cons_zero, List.set_cons_succ]
        refine takeYes (i := 29) (d := 39) (v := ?_) rfl rfl (by kernel_rfl) (by kernel_rfl) (by kernel_rfl) (fun _ _ _ h => h) (by rfl) (by assumption) ?_ ?_
        rotate_left
        · intro w' hSw; (try dsimp only at hSw); go_simp; try exact rfl
        try simp only [List.setIfInBounds_toArray, List.set_cons_zero, List.set_cons_succ]
        refine takeYes (i := 30) (d := 40) (v := ?_) rfl rfl (by kernel_rfl) (by kernel_rfl) (by kernel_rfl) (fun _ _ _ h => h) (by rfl) (by assumption) ?_ ?_
        rotate_left
        · intro w' hSw; (try dsimp only at hSw); go_simp; try exact rfl
        try simp only [List.setIfInBounds_toArray, List.set_cons_zero, List.set_cons_succ]
        refine takeYes (i := 31) (d := 41) (v := ?_) rfl rfl (by kernel_rfl) (by kernel_rfl) (by kernel_rfl) (fun _ _ _ h => h) (by rfl) (by assumption) ?_ ?_
        rotate_left
        · intro w' hSw; (try dsimp only at hSw); go_simp; try exact rfl
        try simp only [List.setIfInBounds_toArray, List.set_cons_zero, List.set_cons_succ]
        refine takeYes (i := 32) (d := 42) (v := ?_) rfl rfl (by kernel_rfl) (by kernel_rfl) (by kernel_rfl) (fun _ _ _ h => h) (by rfl) (by assumption) ?_ ?_
        rotate_left
        · intro w' hSw; (try dsimp only at hSw); go_simp; try exact rfl
        try simp only [List.setIfInBounds_toArray, List.set_cons_zero, List.set_cons_succ]
        refine takeYes (i := 33) (d := 43) (v := ?_) rfl rfl (by kernel_rfl) (by kernel_rfl) (by kernel_rfl) (fun _ _ _ h => h) (by rfl) (by assumption) ?_ ?_
        rotate_left
        · intro w' hSw; (try dsimp only at hSw); go_simp; try exact rfl
        try simp only [List.setIfInBounds_toArray, List.set_cons_zero, List.set_cons_succ]
        refine wpAnyH_done (by kernel_rfl) ?_ _
        go_wp2
        · have hcf : Op.bytesLess y.s.toList x.s.toList = false := by
            have h9 : Op.bytesLess x.s.toList y.s.toList = true ∨ (x.s.toList == y.s.toList) = true := by assumption
            rcases h9 with h9 | h9
            · exact bless_asymm h9
            · rw [beq_iff_eq] at h9; rw [h9]; exact bless_irrefl _
          go_returns
          refine ⟨ret_bool ?_, by repeat (first | exact Below.refl _ _ | refine Below.drew ?_ | refine Below.alloc ?_ (by first | (simp; done) | (simp; omega) | omega) _ | refine Below.setCell ?_ (by first | (simp; done) | (simp; omega) | omega) _ | refine bstep (by assumption) (by first | (simp; done) | (simp; omega) | omega) ?_)⟩
          unfold okDb
          rw [HE.out, HS.out, HQ.out, hcf]
          simp
        · have hcmp : Op.bytesLess y.s.toList x.s.toList = true := by
            have h9 : Op.bytesLess x.s.toList y.s.toList = false ∧ (x.s.toList == y.s.toList) = false := by assumption
            exact bless_total h9.1 (by simpa using h9.2)
          refine ⟨⟨j + 1 + 1, (j : Int) + 1 + 1, hlt, by omega, rfl, by repeat (first | exact Below.refl _ _ | refine Below.drew ?_ | refine Below.alloc ?_ (by first | (simp; done) | (simp; omega) | omega) _ | refine Below.setCell ?_ (by first | (simp; done) | (simp; omega) | omega) _ | refine bstep (by assumption) (by first | (simp; done) | (simp; omega) | omega) ?_), ?_⟩, by simp [intOf]; omega⟩
          rw [HE.out, HS.out, HQ.out, hnm, hpl, hcmp]
          simp
    · have HN : Hid (okRs none rs = true) := by rw [HE.out, List.drop_eq_nil_of_le (by omega)]; rfl
      clear ha hw
      go_wp2
      go_returns
      refine ⟨ret_bool ?_, hb⟩
      unfold okDb
      rw [HN.out, Bool.and_true]
      first | rfl | (rw [Bool.eq_iff_iff]; simp; omega) | (simp; omega)
end Go.Proofs.Ytooeohhkcemoiaa
/- Own text. A bag of the call's own, one of whose counts is written. -/
namespace Go.Proofs.Ytooeohhkcemoiaa
open Go.RowKit Go.Deep Go.ChangeShapes Go.WideShapes
set_option linter.unusedVariables false
theorem cc_set {us : List Value} {cs : List C2} (h : us.length = cs.length) {k : Nat} {x : C2} (hk : cs[k]? = some x) (m : Int) : cc us (cs.set k ⟨x.r, m⟩) = (cc us cs).set (k * 2 + 1) (.int .i64 m) := by
  induction us generalizing cs k with
  | nil => cases cs with | nil => simp at hk | cons => simp at h
  | cons v us ih =>
    cases cs with
    | nil => simp at h
    | cons c cs =>
      have e : ∀ (c : C2) (cs : List C2), cc (v :: us) (c :: cs) = v :: .int .i64 c.n :: cc us cs := by intro c cs; unfold cc; rw [List.zip_cons_cons, List.flatMap_cons]; rfl
      cases k with
      | zero => rw [List.set_cons_zero, e, e]; rfl
      | succ k =>
        rw [List.set_cons_succ, e, e, ih (cs := cs) (by simpa using h) (by simpa using hk)]
        rw [show (k + 1) * 2 + 1 = (k * 2 + 1) + 1 + 1 from by omega]
        rfl
theorem BagOwn.setN {w : World} {N g l cap : Nat} {cs : List C2} {us : List Value} {G : List (List Nat)} (h : BagOwn w N (.slice (some ⟨g, 0, none⟩) l cap) cs us G) {k : Nat} {x : C2} (hk : cs[k]? = some x) (m : Int) :
    BagOwn (w.setCell ⟨g, k * 2 + 1, none⟩ (.int .i64 m)) N (.slice (some ⟨g, 0, none⟩) l cap) (cs.set k ⟨x.r, m⟩) us G := by
  have hkl : k < cs.length := (List.getElem?_eq_some_iff.1 hk).1
  have hout : g ∉ G.flatten := h.out g rfl
  have hb : ∀ b ∈ G.flatten, (w.setCell ⟨g, k * 2 + 1, none⟩ (.int .i64 m)).heap[b]? = w.heap[b]? := fun b hb => Below.heap_setCell _ _ _ _ (by rintro rfl; exact hout hb)
  refine ⟨?_, by rw [List.length_set]; exact h.ul, by rw [List.length_set]; exact h.gl, fun i y u q hy hu hq => ?_, h.free.keep hb, h.out⟩
  · obtain ⟨hl, ho⟩ := h.own
    rw [List.length_set, cc_set h.ul hk]
    refine ⟨by rw [List.length_set]; exact hl, .inr ?_⟩
    rcases ho with ⟨h0, _⟩ | ⟨g', cap', cur, hv, hg, hc, hn, hm, hs, ht⟩
    · cases h0
    cases hv
    refine ⟨g, cap, cur.setIfInBounds (k * 2 + 1) (.int .i64 m), rfl, hg, ?_, hn, hm, by simpa using hs, ?_⟩
    · simp [World.setCell, Array.getElem?_modify, hc]
    · rw [← ht, Array.toList_setIfInBounds, List.take_set]
  · by_cases e : i = k
    · subst e
      rw [List.getElem?_set_self (by omega)] at hy
      have hy := Option.some.inj hy
      subst hy
      exact (h.row i x u q hk hu hq).keep (by simp) fun b hbq => hb b (List.mem_flatten.2 ⟨q, List.mem_of_getElem? hq, hbq⟩)
    · rw [List.getElem?_set_ne (Ne.symm e)] at hy
      exact (h.row i y u q hy hu hq).keep (by simp) fun b hbq => hb b (List.mem_flatten.2 ⟨q, List.mem_of_getElem? hq, hbq⟩)
end Go.Proofs.Ytooeohhkcemoiaa
/- Own text. append of a slice that may be empty or nil, at a step of a region that draws; the heads of a bag's rows, cut in two; a bag of the caller's own, one row less or one more. -/
namespace Go.Proofs.Ytooeohhkcemoiaa
open Go.RowKit Go.Deep Go.ChangeShapes Go.WideShapes
set_option linter.unusedVariables false
/-- the slice sv has m elements with the cells news. -/
def SrcIs (w : World) (size : Nat) (sv : Value) (m : Nat) (news : List Value) : Prop := news.length = m * size ∧ (sv = .slice none 0 0 ∧ m = 0 ∨ ∃ ad c, sv = .slice (some ad) m c ∧ ∀ j u, news[j]? = some u → w.cell? (ad.add j) = some u)
theorem step_append_src {P : Program} (w : World) {ops : Array Oper} {o : Oper} {a : Act} {K : Act → World → Prop} {Q : Exit → Act → World → Prop} {E : Prop} (hgd : o.guard = none) (s x : Operand) (t : TypeId)
    (ho : o.op = .call { callee := .builtin .append, args := #[s, x], argTypes := #[t, t] })
    (base : Nat) (e : TypeId) (i : TypeInfo) (z : Value) (size bytes : Nat) (ht : P.underlying t = some (.slice e)) (hi : P.info? e = some i) (hz : i.zero = some z)
    (hsize : i.size = size) (hby : i.bytes = bytes) (hzs : z.cells.size = size) (hsz : 0 < size)
    (v : Value) (n : Nat) (xs : List Value) (hs : a.eval s = v) (hown : w.ownsRow base e size v n xs)
    (sv : Value) (m : Nat) (news : List Value) (hx : a.eval x = sv) (hsrc : SrcIs w size sv m news) (h1 : ∀ u ∈ news, u.oneCell' = true)
    (h63 : n + m ≤ maxLen) (hbytes : (n + m) * bytes ≤ 140737488355328) (hbase : base ≤ w.heap.size)
    (h : ∀ v' w', w'.ownsRow base e size v' (n + m) (xs ++ news) → w.grownBy w' v.ownBlock → (v'.ownBlock = v.ownBlock ∨ v'.ownBlock = some w.heap.size) → K (a.put o.dst v') w') :
    if Region.wanted o (yielded ops a.tmps) = true then Oper.wp P o a w K Q else E := by
  have hw : Region.wanted o (yielded ops a.tmps) = true := by simp [Region.wanted, hgd]
  rw [if_pos hw]
  have key : ∃ v' w', (Builtin.append_ #[t, t] o.type #[v, sv]).run P w = .ok v' w' ∧ w'.ownsRow base e size v' (n + m) (xs ++ news) ∧ w.grownBy w' v.ownBlock ∧ (v'.ownBlock = v.ownBlock ∨ v'.ownBlock = some w.heap.size) := by
    obtain ⟨hl, ⟨rfl, rfl⟩ | ⟨ad, c, rfl, hc⟩⟩ := hsrc
    · have hn : news = [] := List.eq_nil_of_length_eq_zero (by simpa using hl)
      subst hn
      exact ⟨v, w, run_append_owned_none w base t o.type e i size ht hi v n xs hown, by simpa using hown, ⟨rfl, rfl, rfl, Nat.le_refl _, fun _ _ _ => rfl⟩, .inl rfl⟩
    · obtain ⟨v', w', hr, h2, h3, _, h5⟩ := run_append_own_at (P := P) w base t o.type e i z size bytes ht hi hz hsize hby hzs hsz v n xs hown ad m c news hl hc h1 h63 hbytes hbase
      exact ⟨v', w', hr, h2, h3, h5⟩
  obtain ⟨v', w', hr, h2, h3, h4⟩ := key
  unfold Oper.wp execOp
  simp only [ho, resolve, invoke, builtin, Sem.run_bind, Sem.run_pure, Result.andThen_ok, List.map_toArray, List.map_cons, List.map_nil, hs, hx, hr]
  exact h v' w' h2 h3 h4
theorem cc_append {us vs : List Value} {cs ds : List C2} (h : us.length = cs.length) : cc (us ++ vs) (cs ++ ds) = cc us cs ++ cc vs ds := by
  unfold cc
  rw [List.zip_append h, List.flatMap_append]
theorem cc_split {us : List Value} {cs : List C2} (h : us.length = cs.length) (k : Nat) (hk : k ≤ cs.length) : cc us cs = cc (us.take k) (cs.take k) ++ cc (us.drop k) (cs.drop k) := by
  rw [← cc_append (by simp [h]), List.take_append_drop, List.take_append_drop]
theorem cc_one {us : List Value} {cs : List C2} (hu : ∀ u ∈ us, u.oneCell' = true) : ∀ u ∈ cc us cs, u.oneCell' = true := by
  intro u h
  obtain ⟨p, hp, hq⟩ := List.mem_flatMap.1 h
  have := (List.of_mem_zip hp).1
  simp at hq
  rcases hq with rfl | rfl
  · exact hu _ this
  · rfl
theorem BagOwn.one {w : World} {N : Nat} {v : Value} {cs : List C2} {us : List Value} {G : List (List Nat)} (h : BagOwn w N v cs us G) : ∀ u ∈ us, u.oneCell' = true := by
  intro u hu
  obtain ⟨i, hi, rfl⟩ := List.mem_iff_getElem.1 hu
  have h1 : i < cs.length := by rw [← h.ul]; exact hi
  have h2 : i < G.length := by rw [h.gl]; exact h1
  obtain ⟨a, c, e, _⟩ := h.row i cs[i] us[i] G[i] (by simp) (by simp) (by simp)
  rw [e]; rfl
/-- the first k rows' heads, and those from k on. -/
theorem BagOwn.src1 {w w' : World} {N : Nat} {av : Option Addr} {l cap : Nat} {cs : List C2} {us : List Value} {G : List (List Nat)} (h : BagOwn w N (.slice av l cap) cs us G) (hb : Below w.heap.size w w') {k : Nat} (hk : k ≤ cs.length) :
    SrcIs w' 2 (.slice av k cap) k (cc (us.take k) (cs.take k)) := by
  refine ⟨by rw [cc_len (by simp [h.ul])]; simp; omega, ?_⟩
  obtain ⟨hl, ho⟩ := h.own
  have hlt := ownsRow_lt h.own
  rcases ho with ⟨e, h0⟩ | ⟨g, cap', cur, e, hg, hc, hn, hm, hs, ht⟩
  · cases e; left; have : k = 0 := by omega
    subst this; exact ⟨rfl, rfl⟩
  cases e
  refine .inr ⟨_, _, rfl, fun j u hu => ?_⟩
  have hj : j < k * 2 := by have := (List.getElem?_eq_some_iff.1 hu).1; rw [cc_len (by simp [h.ul])] at this; simp at this; omega
  rw [add_plain, Nat.zero_add, hb.cell (p := ⟨g, _, none⟩) (hlt g rfl).2]
  have e2 := cc_split h.ul k hk
  have hu2 : (cc us cs)[j]? = some u := by rw [e2, List.getElem?_append_left (by exact (List.getElem?_eq_some_iff.1 hu).1)]; exact hu
  simp only [World.cell?, hc]
  rw [← ht, List.getElem?_take, if_pos (by omega), Array.getElem?_toList] at hu2
  simpa using hu2
theorem BagOwn.src2 {w w' : World} {N : Nat} {av : Option Addr} {l cap : Nat} {cs : List C2} {us : List Value} {G : List (List Nat)} (h : BagOwn w N (.slice av l cap) cs us G) (hb : Below w.heap.size w w') {k : Nat} (hk : k ≤ cs.length) :
    SrcIs w' 2 (.slice (if cap = k then av else av.map fun p => p.add (k * 2)) (cs.length - k) (cap - k)) (cs.length - k) (cc (us.drop k) (cs.drop k)) := by
  refine ⟨by rw [cc_len (by simp [h.ul])]; simp, ?_⟩
  obtain ⟨hl, ho⟩ := h.own
  have hlt := ownsRow_lt h.own
  rcases ho with ⟨e, h0⟩ | ⟨g, cap', cur, e, hg, hc, hn, hm, hs, ht⟩
  · cases e; left; have : k = 0 := by omega
    subst this; simp [h0]
  cases e
  right
  by_cases hck : cap = k
  · have hz : cs.length - k = 0 := by omega
    refine ⟨_, _, by rw [if_pos hck], fun j u hu => ?_⟩
    have := (List.getElem?_eq_some_iff.1 hu).1
    rw [cc_len (by simp [h.ul])] at this
    simp at this
    omega
  refine ⟨_, _, by rw [if_neg hck]; rfl, fun j u hu => ?_⟩
  have hj : j < (cs.length - k) * 2 := by have := (List.getElem?_eq_some_iff.1 hu).1; rw [cc_len (by simp [h.ul])] at this; simpa using this
  dsimp only
  rw [add_plain, add_plain, Nat.zero_add, hb.cell (p := ⟨g, _, none⟩) (hlt g rfl).2]
  have e2 := cc_split h.ul k hk
  have hlen1 : (cc (us.take k) (cs.take k)).length = k * 2 := by rw [cc_len (by simp [h.ul])]; simp; omega
  have hu2 : (cc us cs)[k * 2 + j]? = some u := by rw [e2, List.getElem?_append_right (by omega), hlen1, Nat.add_sub_cancel_left]; exact hu
  simp only [World.cell?, hc]
  rw [← ht, List.getElem?_take, if_pos (by omega), Array.getElem?_toList] at hu2
  simpa using hu2
/-- rows that are picked out of a bag of the call's own, with another head. -/
theorem BagOwn.cut {w w' : World} {N : Nat} {v v' : Value} {cs : List C2} {us : List Value} {G : List (List Nat)} (h : BagOwn w N v cs us G) (hN : N ≤ w.heap.size) (hb : Below w.heap.size w w') {k : Nat} (hk : k < cs.length) {B : Nat} (hB : w.heap.size ≤ B)
    (ho : w'.ownsRow B 53 2 v' (k + (cs.length - (k + 1))) (cc (us.take k) (cs.take k) ++ cc (us.drop (k + 1)) (cs.drop (k + 1)))) :
    BagOwn w' N v' (cs.take k ++ cs.drop (k + 1)) (us.take k ++ us.drop (k + 1)) (G.take k ++ G.drop (k + 1)) := by
  have hsub : ∀ b ∈ (G.take k ++ G.drop (k + 1)).flatten, b ∈ G.flatten := by
    intro b hm
    obtain ⟨q, hq, hbq⟩ := List.mem_flatten.1 hm
    refine List.mem_flatten.2 ⟨q, ?_, hbq⟩
    rcases List.mem_append.1 hq with h1 | h1
    · exact List.mem_of_mem_take h1
    · exact List.mem_of_mem_drop h1
  have hkeep : ∀ b ∈ (G.take k ++ G.drop (k + 1)).flatten, w'.heap[b]? = w.heap[b]? := fun b hm => hb.block b (h.lt b (hsub b hm))
  have hul := h.ul
  have hgl := h.gl
  refine ⟨?_, by simp [hul], by simp [hgl], fun i y u q hy hu hq => ?_, ?_, fun b hv hm => ?_⟩
  · rw [cc_append (by simp [hul])]
    have := ownsRow_lt ho
    rw [show (cs.take k ++ cs.drop (k + 1)).length = k + (cs.length - (k + 1)) from by simp; omega]
    refine ⟨ho.1, ?_⟩
    rcases ho.2 with hn | ⟨g, cap, cur, e, hg, rest⟩
    · exact .inl hn
    · exact .inr ⟨g, cap, cur, e, by omega, rest⟩
  · have hi : ∃ j : Nat, cs[j]? = some y ∧ us[j]? = some u ∧ G[j]? = some q := by
      by_cases hlt : i < k
      · rw [List.getElem?_append_left (by simp; omega), List.getElem?_take, if_pos hlt] at hy hu hq
        exact ⟨i, hy, hu, hq⟩
      · rw [List.getElem?_append_right (by simp; omega), List.getElem?_drop] at hy hu hq
        simp only [List.length_take, hul, hgl, Nat.min_eq_left (Nat.le_of_lt hk)] at hy hu hq
        exact ⟨_, hy, hu, hq⟩
    obtain ⟨j, h1, h2, h3⟩ := hi
    exact (h.row j y u q h1 h2 h3).keep hb.size fun b hbq => hb.block b (h.lt b (List.mem_flatten.2 ⟨q, List.mem_of_getElem? h3, hbq⟩))
  · refine Own.keep (w := w) ⟨?_, fun b hm => h.free.2.1 b (hsub b hm), fun b hm => h.free.2.2 b (hsub b hm)⟩ hkeep
    have hnd := h.free.1
    obtain ⟨q, hq⟩ : ∃ q, G.drop k = q :: G.drop (k + 1) := ⟨G[k]'(by omega), List.drop_eq_getElem_cons (by omega)⟩
    have e : G = G.take k ++ q :: G.drop (k + 1) := by rw [← hq, List.take_append_drop]
    rw [e, List.flatten_append, List.flatten_cons, List.nodup_append] at hnd
    rw [List.flatten_append, List.nodup_append]
    obtain ⟨n1, n2, n3⟩ := hnd
    exact ⟨n1, (List.nodup_append.1 n2).2.1, fun a ha b hb' => n3 a ha b (List.mem_append.2 (.inr hb'))⟩
  · have h1 := (ownsRow_lt ho b hv).1
    have h2 := h.lt b (hsub b hm)
    omega
theorem BagOwn.put {w w1 w' : World} {N : Nat} {v v' u0 : Value} {cs : List C2} {us : List Value} {G : List (List Nat)} {x : C2} {g0 : List Nat} (h : BagOwn w N v cs us G) (hN : N ≤ w.heap.size) (hb : Below w.heap.size w w1) (hR : RowF w1 u0 x.r g0) (hO : Own w1 w.heap.size g0) (hb1 : ∀ b, b < w.heap.size ∨ b ∈ g0 → w'.heap[b]? = w1.heap[b]?) (hz : w1.heap.size ≤ w'.heap.size) {k : Nat} (hk : k ≤ cs.length) {B : Nat} (hB : w.heap.size ≤ B) (hv0 : ∀ b, v'.ownBlock = some b → b ∉ g0)
    (ho : w'.ownsRow B 53 2 v' (k + 1 + (cs.length - k)) (cc (us.take k) (cs.take k) ++ [u0, .int .i64 x.n] ++ cc (us.drop k) (cs.drop k))) :
    BagOwn w' N v' (cs.take k ++ x :: cs.drop k) (us.take k ++ u0 :: us.drop k) (G.take k ++ g0 :: G.drop k) := by
  have hul := h.ul
  have hgl := h.gl
  have hmem : ∀ b ∈ (G.take k ++ g0 :: G.drop k).flatten, b ∈ G.flatten ∨ b ∈ g0 := by
    intro b hm
    obtain ⟨q, hq, hbq⟩ := List.mem_flatten.1 hm
    rcases List.mem_append.1 hq with h1 | h1
    · exact .inl (List.mem_flatten.2 ⟨q, List.mem_of_mem_take h1, hbq⟩)
    · rcases List.mem_cons.1 h1 with rfl | h1
      · exact .inr hbq
      · exact .inl (List.mem_flatten.2 ⟨q, List.mem_of_mem_drop h1, hbq⟩)
  have hk1 : ∀ b ∈ G.flatten, w'.heap[b]? = w.heap[b]? := fun b hm => (hb1 b (.inl (h.lt b hm))).trans (hb.block b (h.lt b hm))
  have hk0 : ∀ b ∈ g0, w'.heap[b]? = w1.heap[b]? := fun b hm => hb1 b (.inr hm)
  refine ⟨?_, by simp [hul], by simp [hgl], fun i y u q hy hu hq => ?_, ⟨?_, fun b hm => ?_, fun b hm o => ?_⟩, fun b hv hm => ?_⟩
  · rw [cc_append (by simp [hul])]
    have e : cc (u0 :: us.drop k) (x :: cs.drop k) = [u0, .int .i64 x.n] ++ cc (us.drop k) (cs.drop k) := by unfold cc; rw [List.zip_cons_cons, List.flatMap_cons]
    rw [e, ← List.append_assoc, show (cs.take k ++ x :: cs.drop k).length = k + 1 + (cs.length - k) from by simp; omega]
    refine ⟨ho.1, ?_⟩
    rcases ho.2 with hn | ⟨g, cap, cur, e, hg, rest⟩
    · exact .inl hn
    · exact .inr ⟨g, cap, cur, e, by omega, rest⟩
  · have old : ∀ j : Nat, cs[j]? = some y → us[j]? = some u → G[j]? = some q → RowF w' u y.r q := fun j h1 h2 h3 =>
      (h.row j y u q h1 h2 h3).keep (Nat.le_trans hb.size hz) fun b hbq => hk1 b (List.mem_flatten.2 ⟨q, List.mem_of_getElem? h3, hbq⟩)
    by_cases hlt : i < k
    · rw [List.getElem?_append_left (by simp; omega), List.getElem?_take, if_pos hlt] at hy hu hq
      exact old i hy hu hq
    · rw [List.getElem?_append_right (by simp; omega)] at hy hu hq
      simp only [List.length_take, hul, hgl, Nat.min_eq_left hk] at hy hu hq
      cases hik : i - k with
      | zero =>
        rw [hik] at hy hu hq
        simp at hy hu hq
        subst hy hu hq
        exact hR.keep hz hk0
      | succ j =>
        rw [hik, List.getElem?_cons_succ, List.getElem?_drop] at hy hu hq
        exact old _ hy hu hq
  · have hnd := h.free.1
    rw [← List.take_append_drop k G, List.flatten_append, List.nodup_append] at hnd
    obtain ⟨n1, n2, n3⟩ := hnd
    rw [List.flatten_append, List.flatten_cons, List.nodup_append, List.nodup_append]
    have far : ∀ b, b ∈ g0 → b ∈ G.flatten → False := fun b h1 h2 => by have := hO.2.1 b h1; have := h.lt b h2; omega
    refine ⟨n1, ⟨hO.1, n2, fun a ha b hb' e => ?_⟩, fun a ha b hb' e => ?_⟩
    · subst e
      obtain ⟨q, hq, hbq⟩ := List.mem_flatten.1 hb'
      exact far a ha (List.mem_flatten.2 ⟨q, List.mem_of_mem_drop hq, hbq⟩)
    · rcases List.mem_append.1 hb' with h1 | h1
      · subst e
        obtain ⟨q, hq, hbq⟩ := List.mem_flatten.1 ha
        exact far a h1 (List.mem_flatten.2 ⟨q, List.mem_of_mem_take hq, hbq⟩)
      · exact n3 a ha b h1 e
  · rcases hmem b hm with h1 | h1
    · exact h.free.2.1 b h1
    · have := hO.2.1 b h1; omega
  · rcases hmem b hm with h1 | h1
    · exact (frozen_blk (hk1 b h1)).trans (h.free.2.2 b h1 o)
    · exact (frozen_blk (hk0 b h1)).trans (hO.2.2 b h1 o)
  · rcases hmem b hm with h1 | h1
    · have h2 := (ownsRow_lt ho b hv).1
      have h3 := h.lt b h1
      omega
    · exact hv0 b hv h1
theorem BagOwn.keepO {w w' : World} {N : Nat} {v : Value} {cs : List C2} {us : List Value} {G : List (List Nat)} (h : BagOwn w N v cs us G) (hs : w.heap.size ≤ w'.heap.size) (hv : ∀ b, v.ownBlock = some b → w'.heap[b]? = w.heap[b]?) (hg : ∀ b ∈ G.flatten, w'.heap[b]? = w.heap[b]?) : BagOwn w' N v cs us G :=
  ⟨ownsRow_keep h.own hv, h.ul, h.gl, fun i x u g hx hu hgi => (h.row i x u g hx hu hgi).keep hs fun b hb => hg b (List.mem_flatten.2 ⟨g, List.mem_of_getElem? hgi, hb⟩), h.free.keep hg, h.out⟩
theorem own_shapeX {w : World} {N e n s : Nat} {v : Value} {xs : List Value} (h : w.ownsRow N e s v n xs) : ∃ a c, v = .slice a n c := by
  rcases h.2 with ⟨rfl, rfl⟩ | ⟨g, cap, cur, rfl, _⟩
  · exact ⟨_, _, rfl⟩
  · exact ⟨_, _, rfl⟩
theorem cut_mem {G : List (List Nat)} {k b : Nat} (hm : b ∈ (G.take k ++ G.drop (k + 1)).flatten) : b ∈ G.flatten := by
  obtain ⟨q, hq, hbq⟩ := List.mem_flatten.1 hm
  refine List.mem_flatten.2 ⟨q, ?_, hbq⟩
  rcases List.mem_append.1 hq with h1 | h1
  · exact List.mem_of_mem_take h1
  · exact List.mem_of_mem_drop h1
theorem put_mem {G : List (List Nat)} {g0 : List Nat} {k b : Nat} (hm : b ∈ (G.take k ++ g0 :: G.drop k).flatten) : b ∈ G.flatten ∨ b ∈ g0 := by
  obtain ⟨q, hq, hbq⟩ := List.mem_flatten.1 hm
  rcases List.mem_append.1 hq with h1 | h1
  · exact .inl (List.mem_flatten.2 ⟨q, List.mem_of_mem_take h1, hbq⟩)
  · rcases List.mem_cons.1 h1 with rfl | h1
    · exact .inr hbq
    · exact .inl (List.mem_flatten.2 ⟨q, List.mem_of_mem_drop h1, hbq⟩)
theorem BagOwn.src3 {w w' : World} {N : Nat} {g l cap : Nat} {cs : List C2} {us : List Value} {G : List (List Nat)} (h : BagOwn w N (.slice (some ⟨g, 0, none⟩) l cap) cs us G) (hb : Below w.heap.size w w') {k : Nat} (hk : k ≤ cs.length) :
    SrcIs w' 2 (.slice (if cap = k then some ⟨g, 0, none⟩ else some ⟨g, k * 2, none⟩) (cs.length - k) (cap - k)) (cs.length - k) (cc (us.drop k) (cs.drop k)) := by
  have := h.src2 hb hk
  rwa [Option.map_some, add_plain, Nat.zero_add] at this
theorem BagOwn.src4 {w w' : World} {N : Nat} {l cap : Nat} {cs : List C2} {us : List Value} {G : List (List Nat)} (h : BagOwn w N (.slice none l cap) cs us G) (hb : Below w.heap.size w w') {k : Nat} (hk : k ≤ cs.length) :
    SrcIs w' 2 (.slice none (cs.length - k) (cap - k)) (cs.length - k) (cc (us.drop k) (cs.drop k)) := by
  have := h.src2 hb hk
  rwa [Option.map_none, ite_self] at this
theorem RowF.shapeX {w : World} {v : Value} {vs : List V3} {g : List Nat} (h : RowF w v vs g) : ∃ a c, v = .slice a vs.length c := by
  obtain ⟨a, c, h, _⟩ := h
  exact ⟨a, c, h⟩
theorem RowF.belowX {w w' : World} {v : Value} {vs : List V3} {g : List Nat} (h : RowF w v vs g) (hb : Below w.heap.size w w') : RowF w' v vs g := h.keep hb.size fun c hc => hb.block c (h.lt c hc)
/-- what l02Put leaves: the bag v' of the rows P; of the blocks that were there it has none but the elder bag's own, and only that one's head is written. -/
def PutOut (w : World) (N : Nat) (wd : Int) (v : Value) (G : List (List Nat)) (P : List C2) (e : Ending) (w' : World) : Prop :=
  ∃ v' us' G', e = .returned (.agg #[.int .i64 wd, v']) ∧ BagOwn w' N v' P us' G' ∧ (∀ b, b < w.heap.size → v'.ownBlock = some b → v.ownBlock = some b) ∧ (∀ b, b < w.heap.size → b ∈ G'.flatten → b ∈ G.flatten) ∧ Below N w w' ∧ w.grownBy w' v.ownBlock
theorem PutOut.of_below {w w' : World} {N : Nat} {wd : Int} {v v' : Value} {G G' : List (List Nat)} {us' : List Value} {P : List C2} (hB : BagOwn w' N v' P us' G') (h1 : ∀ b, b < w.heap.size → v'.ownBlock = some b → v.ownBlock = some b) (h2 : ∀ b, b < w.heap.size → b ∈ G'.flatten → b ∈ G.flatten) (hb : Below w.heap.size w w') (hN : N ≤ w.heap.size) :
    PutOut w N wd v G P (.returned (.agg #[.int .i64 wd, v'])) w' :=
  ⟨v', us', G', rfl, hB, h1, h2, hb.mono hN, hb.os, hb.tape, hb.output, hb.size, fun k hk _ => hb.block k hk⟩
theorem grown_set {w w1 : World} (h : Below w.heap.size w w1) (g o : Nat) (u : Value) : w.grownBy (w1.setCell ⟨g, o, none⟩ u) (some g) :=
  ⟨h.os, h.tape, h.output, by simpa using h.size, fun k hk hne => (Below.heap_setCell _ _ _ _ (fun e => hne (congrArg some e))).trans (h.block k hk)⟩
theorem grown_cell {w w1 : World} {row : Option Nat} (h : w.grownBy w1 row) {p : Addr} (hp : w.heap.size ≤ p.block) (u : Value) : w.grownBy (w1.setCell p u) row :=
  ⟨h.os, h.tape, h.output, by simpa using h.size, fun k hk hne => (Below.heap_setCell _ _ _ _ (by omega)).trans (h.block k hk hne)⟩
end Go.Proofs.Ytooeohhkcemoiaa
