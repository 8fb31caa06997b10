/- Own texts, joined: contracts that the law's proof goes by. -/
import Derived.Test.YtbmoimfimeiglaaGreatGLFnLog44
import Derived.Test.YtbmoimfimeiglaaGreatGLFnLog7
import Derived.Test.YtbmoimfimeiglaaGreatGLFnLog17
import Derived.Test.YtbmoimfimeiglaaGreatGLFnLog46
import Derived.Handy
import Derived.Deep.DrawnRows
import Derived.Deep.AppendLies
import Derived.Test.YtbmoimfimeiglaaGreatGLFnLog11
namespace Go.Proofs.YtbmoimfimeiglaaGreat
open Go.RowKit Go.Deep Go.ChangeShapes Go.WideShapes
set_option linter.unusedVariables false
attribute [local go_sem ↓] Go.wp_at_zero Go.wp_at_succ
theorem infoRel9 : (Tryz.prog.info? 73).map (fun i => (i.zero, i.size, i.bytes)) = some (some (.agg #[.string ⟨#[]⟩, .int .i64 0, .slice none 0 0]), 3, 48) := by kernel_rfl
theorem l02Bag_at (B : Nat) (v : Value) (l : Nat) (n : Int) (W : Nat) (minus : Bool) (w : World) (hn : n = (W : Int)) (h : Cur w B v l) (hW : W ≤ 100) :
    Calls Tryz.prog 84 #[.pointer (some ⟨B, 0, none⟩), .int .i64 n, .bool minus] w fun e w' => (∃ (u : Value) (cs : List C2) (us : List Value) (G : List (List Nat)), e = .returned (.agg #[.int .i64 W, u]) ∧ BgI W 30 cs ∧ BagOwn w' w.heap.size u cs us G) ∧ Drew B v l w w' := by
  subst hn
  exact l02Bag_any B v l W minus w h hW
theorem drew_grown {w w1 w2 : World} {B : Nat} {v : Value} {l : Nat} {o : Option Nat} (h : Drew B v l w w1) (hg : w1.grownBy w2 o) (ho : ∀ b, o = some b → w.heap.size ≤ b) : Drew B v l w w2 := by
  have hl := h.lt
  have hs := h.chg.size
  have hk : ∀ b, b < w.heap.size → w2.heap[b]? = w1.heap[b]? := fun b hb => hg.block b (by omega) (fun e => by have := ho b e.symm; omega)
  refine ⟨h.lt, h.cur.keep hg.size fun b hb => hk b (by omega), ?_⟩
  exact ⟨hg.os.trans h.chg.os, hg.tape.trans h.chg.tape, hg.output.trans h.chg.output, Nat.le_trans h.chg.size hg.size, fun k hk1 hF => (hk k hk1).trans (h.chg.block k hk1 hF), fun f b hb o => by rw [frozen_blk (hk b (by rcases List.mem_singleton.1 hb with rfl; exact hl))]; exact h.chg.free f b hb o⟩
structure DbR (W : Nat) (r : R3) : Prop where
  s : r.s.size ≤ 1
  w : r.W = (W : Int)
  i : BgI W 30 r.cs
set_option maxHeartbeats 4000000 in
set_option maxRecDepth 100000 in
theorem l04Db_any (B : Nat) (v : Value) (l : Nat) (w : World) (h : Cur w B v l) :
    Calls Tryz.prog 56 #[.pointer (some ⟨B, 0, none⟩)] w fun e w' => (∃ (u : Value) (rs : List R3) (us : List Value) (G : List (List Nat)), e = .returned u ∧ rs.length = 3 ∧ (∀ i r, rs[i]? = some r → DbR (i + 1) r) ∧ RelOwn w' w.heap.size u rs us G) ∧ Drew B v l w w' := by
  obtain ⟨i0, hi, hz0, hz1, hz2'⟩ := info_parts infoRel9
  have hBl := h.lt
  go_enter Tryz.func56, Tryz.ntmps56
  go_wp2
  go_loopw [3, 5] (fun y i wr => ∃ (rs : List R3) (us : List Value) (G : List (List Nat)), rs.length ≤ 3 ∧ i = .int .i64 rs.length ∧ (∀ i r, rs[i]? = some r → DbR (i + 1) r) ∧ RelOwn wr w.heap.size y rs us G ∧ Drew B v l w wr ∧ y.ownBlock ≠ some (w.heap.size + 1) ∧ wr.heap[w.heap.size + 1]? = some (.cells #[.string ⟨#[97]⟩, .string ⟨#[98]⟩, .string ⟨#[116]⟩] 9 (0, 0))) (fun _ i _ => 3 - (intOf i).toNat)
  case atStart =>
    have hO := RelOwn.empty' (w := w) (N := w.heap.size) rfl
    have al : Below (w.alloc (.cells #[] 73)).heap.size (w.alloc (.cells #[] 73)) ((w.alloc (.cells #[] 73)).alloc (.cells #[.string ⟨#[97]⟩, .string ⟨#[98]⟩, .string ⟨#[116]⟩] 9)) := (Below.refl _ _).alloc (Nat.le_refl _) _
    refine ⟨[], [], [], by simp, rfl, (fun i r hr => by simp at hr), hO.below al, (h.start.alloc _).below al, (fun e => by simp [Value.ownBlock] at e), ?_⟩
    have := heap_alloc_new (w.alloc (.cells #[] 73)) (.cells #[.string ⟨#[97]⟩, .string ⟨#[98]⟩, .string ⟨#[116]⟩] 9)
    simpa using this
  case round =>
    clear h
    obtain ⟨rs, us, G, hk, rfl, hro, hB, hD, hvT, hT⟩ := hrel
    have hzr := hD.chg.size
    have hvl := ownsRow_lt hB.own
    have hGl := hB.lt
    have hTl : w.heap.size + 1 < wr.heap.size := by
      rcases Nat.lt_or_ge (w.heap.size + 1) wr.heap.size with h' | h'
      · exact h'
      · simp [Array.getElem?_eq_none h'] at hT
    by_cases hlt : rs.length < 3
    · obtain ⟨x, c0, hx⟩ : ∃ x : ByteArray, wr.cell? ⟨w.heap.size + 1, rs.length, none⟩ = some (.string x) ∧ x.size ≤ 1 := by
        have e : ∀ k, wr.cell? ⟨w.heap.size + 1, k, none⟩ = #[Value.string ⟨#[97]⟩, .string ⟨#[98]⟩, .string ⟨#[116]⟩][k]? := fun k => by simp [World.cell?, hT]
        rw [e]
        rcases hl : rs.length with _ | _ | _ | k
        · exact ⟨_, rfl, by decide⟩
        · exact ⟨_, rfl, by decide⟩
        · exact ⟨_, rfl, by decide⟩
        · omega
      have hnb : B ≠ w.heap.size + 1 := by omega
      have HT : Hid _ := hT
      clear hT
      go_wp2_with fail
      refine startE 12 (fun w' => w'.cell? ⟨w.heap.size + 1, rs.length, none⟩ = some (.string x)) (by kernel_rfl) ?_ (fun hHeld => ?_)
      · (try dsimp only)
        exact c0
      refine tkE (i := 0) (d := 12) (v := ?_) rfl rfl ?_ ?_
      rotate_left
      · intro w' hSw; (try dsimp only at hSw); go_simp; try exact rfl
      try simp only [List.setIfInBounds_toArray, List.set_cons_zero, List.set_cons_succ]
      refine tkE (i := 1) (d := 13) (v := ?_) rfl rfl ?_ ?_
      rotate_left
      · intro w' hSw; (try dsimp only at hSw); go_simp; try exact rfl
      try simp only [List.setIfInBounds_toArray, List.set_cons_zero, List.set_cons_succ]
      refine tkE (i := 2) (d := 14) (v := ?_) rfl rfl ?_ ?_
      rotate_left
      · intro w' hSw; (try dsimp only at hSw); go_simp; try exact rfl
      try simp only [List.setIfInBounds_toArray, List.set_cons_zero, List.set_cons_succ]
      refine tkE (i := 3) (d := 15) (v := ?_) rfl rfl ?_ ?_
      rotate_left
      · intro w' hSw; (try dsimp only at hSw); go_simp; try exact rfl
      try simp only [List.setIfInBounds_toArray, List.set_cons_zero, List.set_cons_succ]
      refine tkE (i := 4) (d := 16) (v := ?_) rfl rfl ?_ ?_
      rotate_left
      · intro w' hSw; (try dsimp only at hSw); go_simp; try exact rfl
      try simp only [List.setIfInBounds_toArray, List.set_cons_zero, List.set_cons_succ]
      refine tkE (i := 5) (d := 17) (v := ?_) rfl rfl ?_ ?_
      rotate_left
      · intro w' hSw; (try dsimp only at hSw); go_simp; try exact rfl
      try simp only [List.setIfInBounds_toArray, List.set_cons_zero, List.set_cons_succ]
      refine tkE (i := 6) (d := 18) (v := ?_) rfl rfl ?_ ?_
      rotate_left
      · intro w' hSw; (try dsimp only at hSw); go_simp; try exact rfl
      try simp only [List.setIfInBounds_toArray, List.set_cons_zero, List.set_cons_succ]
      refine tkE (i := 7) (d := 19) (v := ?_) rfl rfl ?_ ?_
      rotate_left
      · intro w' hSw; (try dsimp only at hSw); go_simp; try exact rfl
      try simp only [List.setIfInBounds_toArray, List.set_cons_zero, List.set_cons_succ]
      refine oneE (i := 8) (by kernel_rfl) rfl (fun K hK => ?_)
      go_simp
      go_at_call 84
      refine Calls.mono (l02Bag_at B v l (IntKind.i64.wrap ((rs.length : Int) + 1)) (rs.length + 1) false wr.drew (by rw [IntKind.wrap_i64]; omega) (hD.below (Below.drew (Below.refl _ _))).cur (by omega)) ?_
      rintro e w2 ⟨⟨u, cs, us2, G2, rfl, hI, hB2⟩, hd2⟩
      obtain ⟨au, cu, rfl⟩ := hB2.shape
      obtain ⟨g, hR2, hO2⟩ := hB2.rowsF
      have hz2 : wr.heap.size ≤ w2.heap.size := hd2.chg.size
      have hD2 := (hD.below (Below.drew (Below.refl _ _))).trans hd2
      have hO3 : RelOwn w2 w.heap.size u3 rs us G := hB.keep hz2 fun b h1 h2 => hd2.old h2 (by omega)
      have hT2 : w2.heap[w.heap.size + 1]? = wr.heap[w.heap.size + 1]? := hd2.old hTl (by omega)
      have d0 := (cell_blk (o := rs.length) hT2).trans c0
      have hO2' : ∀ b ∈ g, wr.heap.size ≤ b := fun b hb => hO2.2.1 b hb
      try go_wp2_with fail
      refine hK.out _ _ ?_ (fun hHeld8 => ?_)
      · intro _
        (try dsimp only)
        exact d0
      clear hK
      replace hHeld8 := hHeld8 (by decide)
      try simp only [List.setIfInBounds_toArray, List.set_cons_zero, List.set_cons_succ]
      refine tkE (i := 9) (d := 21) (v := ?_) rfl rfl ?_ ?_
      rotate_left
      · intro w' hSw; (try dsimp only at hSw); go_simp; try exact rfl
      try simp only [List.setIfInBounds_toArray, List.set_cons_zero, List.set_cons_succ]
      refine oneE (i := 10) (by kernel_rfl) rfl (fun K hK => ?_)
      go_simp
      refine hK.out _ _ ?_ (fun hHeld10 => ?_)
      · intro _
        (try dsimp only)
        exact (cell_blk (Below.heap_alloc w2 _ _ (by omega))).trans d0
      clear hK
      replace hHeld10 := hHeld10 (by decide)
      try simp only [List.setIfInBounds_toArray, List.set_cons_zero, List.set_cons_succ]
      refine oneE (i := 11) (by kernel_rfl) rfl (fun K hK => ?_)
      refine step_append_lies _ (by rfl) _ _ _ (by rfl) w.heap.size 73 i0 _ 3 48 Tryz.underlying25 hi hz0 hz1 hz2' rfl (by omega) u3 rs.length (rcs us rs) (by rfl) (hO3.own.alloc _) ⟨w2.heap.size, 0, none⟩ 1 1 [.string x, .int .i64 ((rs.length + 1 : Nat) : Int), .slice au cs.length cu] (by rfl) (by rfl) (World.news_of_block (cs := #[.string x, .int .i64 ((rs.length + 1 : Nat) : Int), .slice au cs.length cu]) (t := 73) (fr := (0, 0)) (heap_alloc_new w2 _)) (by simp [Value.oneCell']) (by omega) (by unfold maxLen; omega) (by omega) (by simp; omega) (w2.heap.size + 1) (by simp) ?_
      intro gg cap w3 hown3 hgrow hat hlt3
      have hz3 := hgrow.size
      simp at hz3
      have hT3 : w3.heap[w.heap.size + 1]? = w2.heap[w.heap.size + 1]? := (hgrow.block _ (by simp; omega) (Ne.symm hvT)).trans (Below.heap_alloc _ _ _ (by omega))
      have f0 := (cell_blk (o := rs.length) hT3).trans d0
      have al2 : Below w2.heap.size w2 (w2.alloc (.cells #[.string x, .int .i64 ((rs.length + 1 : Nat) : Int), .slice au cs.length cu] 73)) := (Below.refl _ _).alloc (Nat.le_refl _) _
      have hBp := RelOwn.push (x := ⟨x, ((rs.length + 1 : Nat) : Int), cs⟩) (hO3.below al2) (hR2.below al2) ⟨hO2.1, fun b hb => by have := hO2' b hb; omega, fun b hb q => (frozen_blk (Below.heap_alloc _ _ _ (hR2.lt b hb))).trans (hO2.2.2 b hb q)⟩ (fun b hb hb' => by have := hO2' b hb'; have := hGl b hb; omega) (fun b hb hb' => by have := hO2' b hb'; have := (hvl b hb).2; omega) hown3 hgrow (fun b hb => by simp [Value.ownBlock] at hb; subst hb; rcases hat with h | h; exact .inl h; exact .inr (by simp; omega))
      have hB3 : B ≠ gg := fun e => by rcases hat with h | h; (have := (hvl _ h).1; omega); omega
      have hD3 : Drew B v l w w3 := drew_grown (hD2.below al2) hgrow (fun b hb => (hvl b hb).1)
      have hgT : gg ≠ w.heap.size + 1 := fun e => by rcases hat with h | h; (exact hvT (by rw [← e]; exact h)); omega
      refine hK.out _ _ ?_ (fun hHeld11 => ?_)
      · intro _
        (try dsimp only)
        exact f0
      clear hK
      replace hHeld11 := hHeld11 (by decide)
      try simp only [List.setIfInBounds_toArray, List.set_cons_zero, List.set_cons_succ]
      refine oneE (i := 12) (by kernel_rfl) rfl (fun K hK => ?_)
      go_simp
      refine hK.out _ _ ?_ (fun hHeld12 => ?_)
      · exact fun h => absurd rfl h
      clear hK hHeld12
      try simp only [List.setIfInBounds_toArray, List.set_cons_zero, List.set_cons_succ]
      refine doneE (by kernel_rfl) ?_ _
      clear hown3 hat hO3 hR2 hO2 hO2' hB hHeld hHeld8 hHeld10 hHeld11 f0 d0 c0 al2
      have hro' : ∀ i r, (rs ++ [⟨x, ((rs.length + 1 : Nat) : Int), cs⟩])[i]? = some r → DbR (i + 1) r := fun i r hr => by
        by_cases hi : i < rs.length
        · rw [List.getElem?_append_left hi] at hr
          exact hro i r hr
        · have hl : i < (rs ++ [(⟨x, ((rs.length + 1 : Nat) : Int), cs⟩ : R3)]).length := (List.getElem?_eq_some_iff.1 hr).1
          obtain rfl : i = rs.length := by simp at hl; omega
          rw [List.getElem?_append_right (Nat.le_refl _)] at hr
          simp at hr
          subst hr
          exact ⟨hx, rfl, hI⟩
      go_wp2
      exact ⟨⟨_, _, _, by simp; omega, by simp, hro', hBp, hD3, fun e => hgT (by simpa [Value.ownBlock] using e), hT3.trans (hT2.trans HT.out)⟩, by simp [intOf]; omega⟩
    · have hk3 : rs.length = 3 := by omega
      go_wp2
      go_returns
      exact ⟨⟨_, rs, us, G, rfl, hk3, hro, hB⟩, hD⟩
end Go.Proofs.YtbmoimfimeiglaaGreat
namespace Go.Proofs.YtbmoimfimeiglaaGreat
open Go.RowKit Go.Deep Go.ChangeShapes Go.WideShapes
set_option linter.unusedVariables false
structure BgQ (W M L : Nat) (cs : List C2) : Prop where
  asc : Asc cs
  nz : ∀ c ∈ cs, c.n ≠ 0
  num : ∀ c ∈ cs, -(M : Int) ≤ c.n ∧ c.n ≤ M
  row : ∀ c ∈ cs, c.r.length = W ∧ VsOk c.r
  len : cs.length ≤ L
theorem BgI.q {W M : Nat} {cs : List C2} (h : BgI W M cs) : BgQ W M M cs := ⟨h.asc, h.nz, h.num, h.row, h.len⟩
theorem BgQ.put {W M L : Nat} {cs : List C2} {row : List V3} {n : Int} (h : BgQ W M L cs) (hr : row.length = W ∧ VsOk row) (h0 : -30 ≤ n) (h1 : n ≤ 30) : BgQ W (M + 30) (L + 1) (putC cs row n) := by
  obtain ⟨p1, p2, _⟩ := put_all row n h.asc h.nz
  refine ⟨p1, p2, fun c hc => ?_, fun c hc => ?_, ?_⟩
  · rcases putC_mem c hc with hc | ⟨_, e | ⟨c', hc', e⟩⟩
    · have := h.num c hc; omega
    · omega
    · have := h.num c' hc'; omega
  · rcases putC_mem c hc with hc | ⟨e, _⟩
    · exact h.row c hc
    · rw [e]; exact hr
  · have := putC_len cs row n
    have := h.len
    omega
def chB (rs : List R3) : Nat := (rs.map fun r => (csN r.cs).length).sum
theorem chB_push (rs : List R3) (r : R3) : chB (rs ++ [r]) = chB rs + (csN r.cs).length := by unfold chB; simp
theorem putS_10 {x : V3} (h : 0 ≤ x.k ∧ x.k ≤ 3 ∧ -9223372036854775808 ≤ x.n ∧ x.n ≤ 9223372036854775807 ∧ x.s.size ≤ 8) : (putS x.k x.n x.s).data.toList.length ≤ 10 := by
  have e : (putS x.k x.n x.s).data.toList.length = (putS x.k x.n x.s).size := rfl
  rw [e]
  unfold putS
  split
  · split
    · rw [nums_size]; simp
    · split
      · rw [nums_size, numL_len]; omega
      · split
        · rw [nums_size]; simp
        · rw [ByteArray.size_append, nums_size]; simp; omega
  · show 0 ≤ 10; omega
theorem rowU_10 {vs : List V3} (h : VsOk vs) : (rowU vs).length ≤ 10 * vs.length := by
  induction vs with
  | nil => simp [rowU]
  | cons x vs ih =>
    have e : rowU (x :: vs) = (putS x.k x.n x.s).data.toList ++ rowU vs := by unfold rowU; rw [List.flatMap_cons]
    have h1 := putS_10 (h x (List.mem_cons_self ..))
    have h2 := ih fun y hy => h y (List.mem_cons_of_mem _ hy)
    rw [e, List.length_append, List.length_cons]
    omega
theorem csN_small {cs : List C2} {k : Nat} (h : ∀ c ∈ cs, c.r.length ≤ k ∧ VsOk c.r) : (csN cs).length ≤ (9 + 10 * k) * cs.length := by
  induction cs with
  | nil => simp [csN]
  | cons x xs ih =>
    have e : csN (x :: xs) = (numL x.n 8 ++ nb (rowU x.r)) ++ csN xs := by unfold csN; rw [List.flatMap_cons]
    obtain ⟨h1, h2⟩ := h x (List.mem_cons_self ..)
    have h3 := rowU_10 h2
    have h4 := ih fun y hy => h y (List.mem_cons_of_mem _ hy)
    have h5 : 10 * x.r.length ≤ 10 * k := by omega
    rw [e, List.length_append, List.length_append, numL_len, nb_len, List.length_cons, Nat.mul_succ]
    omega
structure ChR (r : R3) : Prop where
  s : r.s.size ≤ 2
  w0 : -1 ≤ r.W
  w1 : r.W ≤ 13
  num : ∀ c ∈ r.cs, -2000000000 ≤ c.n ∧ c.n ≤ 2000000000
  row : ∀ c ∈ r.cs, c.r.length ≤ 13 ∧ VsOk c.r
  len : r.cs.length ≤ 60
theorem BgQ.ch {W M : Nat} {s : ByteArray} {cs : List C2} (h : BgQ W M 60 cs) (hs : s.size ≤ 1) (hM : M ≤ 2000) (hW : W ≤ 3) : ChR ⟨s, W, cs⟩ ∧ (csN cs).length ≤ 2400 := by
  refine ⟨⟨by dsimp only; omega, by dsimp only; omega, by dsimp only; omega, fun c hc => by have := h.num c hc; omega, fun c hc => ⟨by have := (h.row c hc).1; omega, (h.row c hc).2⟩, h.len⟩, ?_⟩
  have := csN_small (k := 3) fun c hc => ⟨by have := (h.row c hc).1; omega, (h.row c hc).2⟩
  have := h.len
  omega
theorem BgJ.ch {W : Int} {s : ByteArray} {cs : List C2} (h : BgJ W cs) (hs : s.size ≤ 2) : ChR ⟨s, W, cs⟩ ∧ (csN cs).length ≤ 5560 := by
  refine ⟨⟨hs, h.w0, h.w1, h.num, h.row, by have := h.len; dsimp only; omega⟩, ?_⟩
  have := csN_small (k := 13) h.row
  have := h.len
  omega
structure ChW (w wo wr : World) (X B : Nat) (v : Value) (l : Nat) (W : Nat) (u : Value) (cs : List C2) (us : List Value) (G : List (List Nat)) : Prop where
  xb : wr.heap[X]? = some (.cells #[.int .i64 W, u] 71 (0, 0))
  xl : wo.heap.size ≤ X
  ol : w.heap.size ≤ wo.heap.size
  own : BagOwn wr wo.heap.size u cs us G
  xo : u.ownBlock ≠ some X
  xg : X ∉ G.flatten
  D : Drew B v l w wr
  z : wo.heap.size ≤ wr.heap.size
  kp : ∀ b, b < wo.heap.size → b ≠ B → wr.heap[b]? = wo.heap[b]?
section
variable {w wo wr wn : World} {X B : Nat} {v : Value} {l : Nat} {W : Nat} {u : Value} {cs : List C2} {us : List Value} {G : List (List Nat)}
theorem ChW.xlt (h : ChW w wo wr X B v l W u cs us G) : X < wr.heap.size := heap_ltA h.xb
theorem ChW.drew (h : ChW w wo wr X B v l W u cs us G) (hd : Drew B v l wr wn) : ChW w wo wn X B v l W u cs us G := by
  have hB := h.D.lt
  have hx := h.xl
  have ho := h.ol
  have hz := h.z
  exact ⟨hd.cellsB h.xb (by omega), h.xl, h.ol, h.own.keep hd.chg.size fun b h1 h2 => hd.old h2 (by omega), h.xo, h.xg, h.D.trans hd, Nat.le_trans hz hd.chg.size, fun b h1 h2 => (hd.old (by omega) h2).trans (h.kp b h1 h2)⟩
theorem ChW.below (h : ChW w wo wr X B v l W u cs us G) (hb : Below wr.heap.size wr wn) : ChW w wo wn X B v l W u cs us G := by
  have hz := h.z
  exact ⟨(hb.block _ h.xlt).trans h.xb, h.xl, h.ol, h.own.below hb, h.xo, h.xg, h.D.below hb, Nat.le_trans hz hb.size, fun b h1 h2 => (hb.block b (by omega)).trans (h.kp b h1 h2)⟩
theorem ChW.put {w5 : World} {P : List C2} {us5 : List Value} {G5 : List (List Nat)} {u5 : Value} (h : ChW w wo wr X B v l W u cs us G) (hB5 : BagOwn w5 wo.heap.size u5 P us5 G5) (p3 : ∀ b, b < wr.heap.size → u5.ownBlock = some b → u.ownBlock = some b) (p4 : ∀ b, b < wr.heap.size → b ∈ G5.flatten → b ∈ G.flatten) (hb5 : Below wo.heap.size wr w5) (hg : wr.grownBy w5 u.ownBlock) :
    ChW w wo ((w5.setCell ⟨X, 0, none⟩ (.int .i64 W)).setCell ⟨X, 1, none⟩ u5) X B v l W u5 P us5 G5 := by
  have hX := h.xlt
  have hx := h.xl
  have ho := h.ol
  have hz := h.z
  have hl := h.D.lt
  have hol := ownsRow_lt h.own.own
  have hxo : u5.ownBlock ≠ some X := fun e => h.xo (p3 X hX e)
  have hxg : X ∉ G5.flatten := fun e => h.xg (p4 X hX e)
  have hX5 : w5.heap[X]? = wr.heap[X]? := hg.block X hX fun e => h.xo e.symm
  have far : ∀ b, b ≠ X → ((w5.setCell ⟨X, 0, none⟩ (.int .i64 W)).setCell ⟨X, 1, none⟩ u5).heap[b]? = w5.heap[b]? := fun b hb => far2 _ _ hb
  refine ⟨set2 (hX5.trans h.xb) _ _, hx, ho, hB5.keepO (by simp) (fun b hb => far b (by rintro rfl; exact hxo hb)) (fun b hb => far b (by rintro rfl; exact hxg hb)), hxo, hxg, ?_, by simp; exact Nat.le_trans hz hg.size, fun b h1 h2 => ?_⟩
  · exact ((drew_grown h.D hg fun b hb => by have := (hol b hb).1; omega).set (p := ⟨X, 0, none⟩) (by simp; omega) _).set (p := ⟨X, 1, none⟩) (by simp; omega) _
  · exact (far b (by omega)).trans ((hg.block b (by omega) fun e => by have := (hol b e.symm).1; omega).trans (h.kp b h1 h2))
end
theorem db_at {w : World} {b o c n : Nat} {ds : List R3} {F : List Nat} (h : RelsF w (.slice (some ⟨b, o, none⟩) n c) ds F) {i : Nat} (hi : i < ds.length) :
    n = ds.length ∧ b ∈ F ∧ b < w.heap.size ∧ ∃ x u g, ds[i]? = some x ∧ w.cell? ⟨b, o + i * 3, none⟩ = some (.string x.s) ∧ w.cell? ⟨b, o + i * 3 + 1, none⟩ = some (.int .i64 x.W) ∧ w.cell? ⟨b, o + i * 3 + 2, none⟩ = some u ∧ RowsF w u x.cs g ∧ ∀ y ∈ g, y ∈ F := by
  obtain ⟨a, c', G, e, hl, hc, hz, hG, h0, h⟩ := h
  obtain ⟨b', o', ha, hlt, hF, hL⟩ := h (by rintro rfl; simp at hi)
  subst ha
  injection e with e1 e2 e3
  injection e1 with e1
  injection e1 with e4 e5
  subst e4 e5
  obtain ⟨u, h0, h1, h2, h3⟩ := hL i ds[i] (G[i]'(by omega)) (by simp [hi]) (by simp)
  refine ⟨e2, by rw [hF]; exact List.mem_cons_self, hlt, ds[i], u, _, by simp [hi], h0, h1, h2, h3, fun y hy => ?_⟩
  rw [hF]
  exact List.mem_cons_of_mem _ (List.mem_flatten.2 ⟨_, List.getElem_mem _, hy⟩)
end Go.Proofs.YtbmoimfimeiglaaGreat
