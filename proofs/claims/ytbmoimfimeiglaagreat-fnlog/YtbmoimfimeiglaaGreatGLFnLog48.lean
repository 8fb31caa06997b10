/- Own texts, joined: contracts that the law's proof goes by. -/
import Derived.Test.YtbmoimfimeiglaaGreatGLFnLog44
import Derived.Test.YtbmoimfimeiglaaGreatGLFnLog7
import Derived.Test.YtbmoimfimeiglaaGreatGLFnLog18
import Derived.Test.YtbmoimfimeiglaaGreatGLFnLog47
import Derived.Handy
import Derived.Deep.DrawnRows
import Derived.Deep.AppendLies
import Derived.Test.YtbmoimfimeiglaaGreatDrT
import Derived.Test.YtbmoimfimeiglaaGreatGLFnLog11
import Derived.Test.YtbmoimfimeiglaaGreatGLFnLog12
namespace Go.Proofs.YtbmoimfimeiglaaGreat
open Go.RowKit Go.Deep Go.ChangeShapes Go.WideShapes
set_option linter.unusedVariables false
attribute [local go_sem ↓] Go.wp_at_zero Go.wp_at_succ
theorem infoRel9 : (Tryz.prog.info? 73).map (fun i => (i.zero, i.size, i.bytes)) = some (some (.agg #[.string ⟨#[]⟩, .int .i64 0, .slice none 0 0]), 3, 48) := by kernel_rfl
theorem l02Bag_at (B : Nat) (v : Value) (l : Nat) (n : Int) (W : Nat) (minus : Bool) (w : World) (hn : n = (W : Int)) (h : Cur w B v l) (hW : W ≤ 100) :
    Calls Tryz.prog 84 #[.pointer (some ⟨B, 0, none⟩), .int .i64 n, .bool minus] w fun e w' => (∃ (u : Value) (cs : List C2) (us : List Value) (G : List (List Nat)), e = .returned (.agg #[.int .i64 W, u]) ∧ BgI W 30 cs ∧ BagOwn w' w.heap.size u cs us G) ∧ Drew B v l w w' := by
  subst hn
  exact l02Bag_any B v l W minus w h hW
theorem drew_grown {w w1 w2 : World} {B : Nat} {v : Value} {l : Nat} {o : Option Nat} (h : Drew B v l w w1) (hg : w1.grownBy w2 o) (ho : ∀ b, o = some b → w.heap.size ≤ b) : Drew B v l w w2 := by
  have hl := h.lt
  have hs := h.chg.size
  have hk : ∀ b, b < w.heap.size → w2.heap[b]? = w1.heap[b]? := fun b hb => hg.block b (by omega) (fun e => by have := ho b e.symm; omega)
  refine ⟨h.lt, h.cur.keep hg.size fun b hb => hk b (by omega), ?_⟩
  exact ⟨hg.os.trans h.chg.os, hg.tape.trans h.chg.tape, hg.output.trans h.chg.output, Nat.le_trans h.chg.size hg.size, fun k hk1 hF => (hk k hk1).trans (h.chg.block k hk1 hF), fun f b hb o => by rw [frozen_blk (hk b (by rcases List.mem_singleton.1 hb with rfl; exact hl))]; exact h.chg.free f b hb o⟩
structure DbR (W : Nat) (r : R3) : Prop where
  s : r.s.size ≤ 1
  w : r.W = (W : Int)
  i : BgI W 30 r.cs
set_option maxHeartbeats 4000000 in
set_option maxRecDepth 100000 in
theorem l04Db_any (B : Nat) (v : Value) (l : Nat) (w : World) (h : Cur w B v l) :
    Calls Tryz.prog 56 #[.pointer (some ⟨B, 0, none⟩)] w fun e w' => (∃ (u : Value) (rs : List R3) (us : List Value) (G : List (List Nat)), e = .returned u ∧ rs.length = 3 ∧ (∀ i r, rs[i]? = some r → DbR (i + 1) r) ∧ RelOwn w' w.heap.size u rs us G) ∧ Drew B v l w w' := by
  obtain ⟨i0, hi, hz0, hz1, hz2'⟩ := info_parts infoRel9
  have hBl := h.lt
  go_enter Tryz.func56, Tryz.ntmps56
  go_wp2
  go_loopw [3, 5] (fun y i wr => ∃ (rs : List R3) (us : List Value) (G : List (List Nat)), rs.length ≤ 3 ∧ i = .int .i64 rs.length ∧ (∀ i r, rs[i]? = some r → DbR (i + 1) r) ∧ RelOwn wr w.heap.size y rs us G ∧ Drew B v l w wr ∧ y.ownBlock ≠ some (w.heap.size + 1) ∧ wr.heap[w.heap.size + 1]? = some (.cells #[.string ⟨#[97]⟩, .string ⟨#[98]⟩, .string ⟨#[116]⟩] 9 (0, 0))) (fun _ i _ => 3 - (intOf i).toNat)
  case atStart =>
    have hO := RelOwn.empty' (w := w) (N := w.heap.size) rfl
    have al : Below (w.alloc (.cells #[] 73)).heap.size (w.alloc (.cells #[] 73)) ((w.alloc (.cells #[] 73)).alloc (.cells #[.string ⟨#[97]⟩, .string ⟨#[98]⟩, .string ⟨#[116]⟩] 9)) := (Below.refl _ _).alloc (Nat.le_refl _) _
    refine ⟨[], [], [], by simp, rfl, (fun i r hr => by simp at hr), hO.below al, (h.start.alloc _).below al, (fun e => by simp [Value.ownBlock] at e), ?_⟩
    have := heap_alloc_new (w.alloc (.cells #[] 73)) (.cells #[.string ⟨#[97]⟩, .string ⟨#[98]⟩, .string ⟨#[116]⟩] 9)
    simpa using this
  case round =>
    clear h
    obtain ⟨rs, us, G, hk, rfl, hro, hB, hD, hvT, hT⟩ := hrel
    have hzr := hD.chg.size
    have hvl := ownsRow_lt hB.own
    have hGl := hB.lt
    have hTl : w.heap.size + 1 < wr.heap.size := by
      rcases Nat.lt_or_ge (w.heap.size + 1) wr.heap.size with h' | h'
      · exact h'
      · simp [Array.getElem?_eq_none h'] at hT
    by_cases hlt : rs.length < 3
    · obtain ⟨x, c0, hx⟩ : ∃ x : ByteArray, wr.cell? ⟨w.heap.size + 1, rs.length, none⟩ = some (.string x) ∧ x.size ≤ 1 := by
        have e : ∀ k, wr.cell? ⟨w.heap.size + 1, k, none⟩ = #[Value.string ⟨#[97]⟩, .string ⟨#[98]⟩, .string ⟨#[116]⟩][k]? := fun k => by simp [World.cell?, hT]
        rw [e]
        rcases hl : rs.length with _ | _ | _ | k
        · exact ⟨_, rfl, by decide⟩
        · exact ⟨_, rfl, by decide⟩
        · exact ⟨_, rfl, by decide⟩
        · omega
      have hnb : B ≠ w.heap.size + 1 := by omega
      have HT : Hid _ := hT
      clear hT
      go_wp2_with fail
      refine startE 12 (fun w' => w'.cell? ⟨w.heap.size + 1, rs.length, none⟩ = some (.string x)) (by kernel_rfl) ?_ (fun hHeld => ?_)
      · (try dsimp only)
        exact c0
      refine tkE (i := 0) (d := 12) (v := ?_) rfl rfl ?_ ?_
      rotate_left
      · intro w' hSw; (try dsimp only at hSw); go_simp; try exact rfl
      try simp only [List.setIfInBounds_toArray, List.set_cons_zero, List.set_cons_succ]
      refine tkE (i := 1) (d := 13) (v := ?_) rfl rfl ?_ ?_
      rotate_left
      · intro w' hSw; (try dsimp only at hSw); go_simp; try exact rfl
      try simp only [List.setIfInBounds_toArray, List.set_cons_zero, List.set_cons_succ]
      refine tkE (i := 2) (d := 14) (v := ?_) rfl rfl ?_ ?_
      rotate_left
      · intro w' hSw; (try dsimp only at hSw); go_simp; try exact rfl
      try simp only [List.setIfInBounds_toArray, List.set_cons_zero, List.set_cons_succ]
      refine tkE (i := 3) (d := 15) (v := ?_) rfl rfl ?_ ?_
      rotate_left
      · intro w' hSw; (try dsimp only at hSw); go_simp; try exact rfl
      try simp only [List.setIfInBounds_toArray, List.set_cons_zero, List.set_cons_succ]
      refine tkE (i := 4) (d := 16) (v := ?_) rfl rfl ?_ ?_
      rotate_left
      · intro w' hSw; (try dsimp only at hSw); go_simp; try exact rfl
      try simp only [List.setIfInBounds_toArray, List.set_cons_zero, List.set_cons_succ]
      refine tkE (i := 5) (d := 17) (v := ?_) rfl rfl ?_ ?_
      rotate_left
      · intro w' hSw; (try dsimp only at hSw); go_simp; try exact rfl
      try simp only [List.setIfInBounds_toArray, List.set_cons_zero, List.set_cons_succ]
      refine tkE (i := 6) (d := 18) (v := ?_) rfl rfl ?_ ?_
      rotate_left
      · intro w' hSw; (try dsimp only at hSw); go_simp; try exact rfl
      try simp only [List.setIfInBounds_toArray, List.set_cons_zero, List.set_cons_succ]
      refine tkE (i := 7) (d := 19) (v := ?_) rfl rfl ?_ ?_
      rotate_left
      · intro w' hSw; (try dsimp only at hSw); go_simp; try exact rfl
      try simp only [List.setIfInBounds_toArray, List.set_cons_zero, List.set_cons_succ]
      refine oneE (i := 8) (by kernel_rfl) rfl (fun K hK => ?_)
      go_simp
      go_at_call 84
      refine Calls.mono (l02Bag_at B v l (IntKind.i64.wrap ((rs.length : Int) + 1)) (rs.length + 1) false wr.drew (by rw [IntKind.wrap_i64]; omega) (hD.below (Below.drew (Below.refl _ _))).cur (by omega)) ?_
      rintro e w2 ⟨⟨u, cs, us2, G2, rfl, hI, hB2⟩, hd2⟩
      obtain ⟨au, cu, rfl⟩ := hB2.shape
      obtain ⟨g, hR2, hO2⟩ := hB2.rowsF
      have hz2 : wr.heap.size ≤ w2.heap.size := hd2.chg.size
      have hD2 := (hD.below (Below.drew (Below.refl _ _))).trans hd2
      have hO3 : RelOwn w2 w.heap.size u3 rs us G := hB.keep hz2 fun b h1 h2 => hd2.old h2 (by omega)
      have hT2 : w2.heap[w.heap.size + 1]? = wr.heap[w.heap.size + 1]? := hd2.old hTl (by omega)
      have d0 := (cell_blk (o := rs.length) hT2).trans c0
      have hO2' : ∀ b ∈ g, wr.heap.size ≤ b := fun b hb => hO2.2.1 b hb
      try go_wp2_with fail
      refine hK.out _ _ ?_ (fun hHeld8 => ?_)
      · intro _
        (try dsimp only)
        exact d0
      clear hK
      replace hHeld8 := hHeld8 (by decide)
      try simp only [List.setIfInBounds_toArray, List.set_cons_zero, List.set_cons_succ]
      refine tkE (i := 9) (d := 21) (v := ?_) rfl rfl ?_ ?_
      rotate_left
      · intro w' hSw; (try dsimp only at hSw); go_simp; try exact rfl
      try simp only [List.setIfInBounds_toArray, List.set_cons_zero, List.set_cons_succ]
      refine oneE (i := 10) (by kernel_rfl) rfl (fun K hK => ?_)
      go_simp
      refine hK.out _ _ ?_ (fun hHeld10 => ?_)
      · intro _
        (try dsimp only)
        exact (cell_blk (Below.heap_alloc w2 _ _ (by omega))).trans d0
      clear hK
      replace hHeld10 := hHeld10 (by decide)
      try simp only [List.setIfInBounds_toArray, List.set_cons_zero, List.set_cons_succ]
      refine oneE (i := 11) (by kernel_rfl) rfl (fun K hK => ?_)
      refine step_append_lies _ (by rfl) _ _ _ (by rfl) w.heap.size 73 i0 _ 3 48 Tryz.underlying25 hi hz0 hz1 hz2' rfl (by omega) u3 rs.length (rcs us rs) (by rfl) (hO3.own.alloc _) ⟨w2.heap.size, 0, none⟩ 1 1 [.string x, .int .i64 ((rs.length + 1 : Nat) : Int), .slice au cs.length cu] (by rfl) (by rfl) (World.news_of_block (cs := #[.string x, .int .i64 ((rs.length + 1 : Nat) : Int), .slice au cs.length cu]) (t := 73) (fr := (0, 0)) (heap_alloc_new w2 _)) (by simp [Value.oneCell']) (by omega) (by unfold maxLen; omega) (by omega) (by simp; omega) (w2.heap.size + 1) (by simp) ?_
      intro gg cap w3 hown3 hgrow hat hlt3
      have hz3 := hgrow.size
      simp at hz3
      have hT3 : w3.heap[w.heap.size + 1]? = w2.heap[w.heap.size + 1]? := (hgrow.block _ (by simp; omega) (Ne.symm hvT)).trans (Below.heap_alloc _ _ _ (by omega))
      have f0 := (cell_blk (o := rs.length) hT3).trans d0
      have al2 : Below w2.heap.size w2 (w2.alloc (.cells #[.string x, .int .i64 ((rs.length + 1 : Nat) : Int), .slice au cs.length cu] 73)) := (Below.refl _ _).alloc (Nat.le_refl _) _
      have hBp := RelOwn.push (x := ⟨x, ((rs.length + 1 : Nat) : Int), cs⟩) (hO3.below al2) (hR2.below al2) ⟨hO2.1, fun b hb => by have := hO2' b hb; omega, fun b hb q => (frozen_blk (Below.heap_alloc _ _ _ (hR2.lt b hb))).trans (hO2.2.2 b hb q)⟩ (fun b hb hb' => by have := hO2' b hb'; have := hGl b hb; omega) (fun b hb hb' => by have := hO2' b hb'; have := (hvl b hb).2; omega) hown3 hgrow (fun b hb => by simp [Value.ownBlock] at hb; subst hb; rcases hat with h | h; exact .inl h; exact .inr (by simp; omega))
      have hB3 : B ≠ gg := fun e => by rcases hat with h | h; (have := (hvl _ h).1; omega); omega
      have hD3 : Drew B v l w w3 := drew_grown (hD2.below al2) hgrow (fun b hb => (hvl b hb).1)
      have hgT : gg ≠ w.heap.size + 1 := fun e => by rcases hat with h | h; (exact hvT (by rw [← e]; exact h)); omega
      refine hK.out _ _ ?_ (fun hHeld11 => ?_)
      · intro _
        (try dsimp only)
        exact f0
      clear hK
      replace hHeld11 := hHeld11 (by decide)
      try simp only [List.setIfInBounds_toArray, List.set_cons_zero, List.set_cons_succ]
      refine oneE (i := 12) (by kernel_rfl) rfl (fun K hK => ?_)
      go_simp
      refine hK.out _ _ ?_ (fun hHeld12 => ?_)
      · exact fun h => absurd rfl h
      clear hK hHeld12
      try simp only [List.setIfInBounds_toArray, List.set_cons_zero, List.set_cons_succ]
      refine doneE (by kernel_rfl) ?_ _
      clear hown3 hat hO3 hR2 hO2 hO2' hB hHeld hHeld8 hHeld10 hHeld11 f0 d0 c0 al2
      have hro' : ∀ i r, (rs ++ [⟨x, ((rs.length + 1 : Nat) : Int), cs⟩])[i]? = some r → DbR (i + 1) r := fun i r hr => by
        by_cases hi : i < rs.length
        · rw [List.getElem?_append_left hi] at hr
          exact hro i r hr
        · have hl : i < (rs ++ [(⟨x, ((rs.length + 1 : Nat) : Int), cs⟩ : R3)]).length := (List.getElem?_eq_some_iff.1 hr).1
          obtain rfl : i = rs.length := by simp at hl; omega
          rw [List.getElem?_append_right (Nat.le_refl _)] at hr
          simp at hr
          subst hr
          exact ⟨hx, rfl, hI⟩
      go_wp2
      exact ⟨⟨_, _, _, by simp; omega, by simp, hro', hBp, hD3, fun e => hgT (by simpa [Value.ownBlock] using e), hT3.trans (hT2.trans HT.out)⟩, by simp [intOf]; omega⟩
    · have hk3 : rs.length = 3 := by omega
      go_wp2
      go_returns
      exact ⟨⟨_, rs, us, G, rfl, hk3, hro, hB⟩, hD⟩
end Go.Proofs.YtbmoimfimeiglaaGreat
namespace Go.Proofs.YtbmoimfimeiglaaGreat
open Go.RowKit Go.Deep Go.ChangeShapes Go.WideShapes
set_option linter.unusedVariables false
structure BgQ (W M L : Nat) (cs : List C2) : Prop where
  asc : Asc cs
  nz : ∀ c ∈ cs, c.n ≠ 0
  num : ∀ c ∈ cs, -(M : Int) ≤ c.n ∧ c.n ≤ M
  row : ∀ c ∈ cs, c.r.length = W ∧ VsOk c.r
  len : cs.length ≤ L
theorem BgI.q {W M : Nat} {cs : List C2} (h : BgI W M cs) : BgQ W M M cs := ⟨h.asc, h.nz, h.num, h.row, h.len⟩
theorem BgQ.put {W M L : Nat} {cs : List C2} {row : List V3} {n : Int} (h : BgQ W M L cs) (hr : row.length = W ∧ VsOk row) (h0 : -30 ≤ n) (h1 : n ≤ 30) : BgQ W (M + 30) (L + 1) (putC cs row n) := by
  obtain ⟨p1, p2, _⟩ := put_all row n h.asc h.nz
  refine ⟨p1, p2, fun c hc => ?_, fun c hc => ?_, ?_⟩
  · rcases putC_mem c hc with hc | ⟨_, e | ⟨c', hc', e⟩⟩
    · have := h.num c hc; omega
    · omega
    · have := h.num c' hc'; omega
  · rcases putC_mem c hc with hc | ⟨e, _⟩
    · exact h.row c hc
    · rw [e]; exact hr
  · have := putC_len cs row n
    have := h.len
    omega
def chB (rs : List R3) : Nat := (rs.map fun r => (csN r.cs).length).sum
theorem chB_push (rs : List R3) (r : R3) : chB (rs ++ [r]) = chB rs + (csN r.cs).length := by unfold chB; simp
theorem putS_10 {x : V3} (h : 0 ≤ x.k ∧ x.k ≤ 3 ∧ -9223372036854775808 ≤ x.n ∧ x.n ≤ 9223372036854775807 ∧ x.s.size ≤ 8) : (putS x.k x.n x.s).data.toList.length ≤ 10 := by
  have e : (putS x.k x.n x.s).data.toList.length = (putS x.k x.n x.s).size := rfl
  rw [e]
  unfold putS
  split
  · split
    · rw [nums_size]; simp
    · split
      · rw [nums_size, numL_len]; omega
      · split
        · rw [nums_size]; simp
        · rw [ByteArray.size_append, nums_size]; simp; omega
  · show 0 ≤ 10; omega
theorem rowU_10 {vs : List V3} (h : VsOk vs) : (rowU vs).length ≤ 10 * vs.length := by
  induction vs with
  | nil => simp [rowU]
  | cons x vs ih =>
    have e : rowU (x :: vs) = (putS x.k x.n x.s).data.toList ++ rowU vs := by unfold rowU; rw [List.flatMap_cons]
    have h1 := putS_10 (h x (List.mem_cons_self ..))
    have h2 := ih fun y hy => h y (List.mem_cons_of_mem _ hy)
    rw [e, List.length_append, List.length_cons]
    omega
theorem csN_small {cs : List C2} {k : Nat} (h : ∀ c ∈ cs, c.r.length ≤ k ∧ VsOk c.r) : (csN cs).length ≤ (9 + 10 * k) * cs.length := by
  induction cs with
  | nil => simp [csN]
  | cons x xs ih =>
    have e : csN (x :: xs) = (numL x.n 8 ++ nb (rowU x.r)) ++ csN xs := by unfold csN; rw [List.flatMap_cons]
    obtain ⟨h1, h2⟩ := h x (List.mem_cons_self ..)
    have h3 := rowU_10 h2
    have h4 := ih fun y hy => h y (List.mem_cons_of_mem _ hy)
    have h5 : 10 * x.r.length ≤ 10 * k := by omega
    rw [e, List.length_append, List.length_append, numL_len, nb_len, List.length_cons, Nat.mul_succ]
    omega
structure ChR (r : R3) : Prop where
  s : r.s.size ≤ 2
  w0 : -1 ≤ r.W
  w1 : r.W ≤ 13
  num : ∀ c ∈ r.cs, -2000000000 ≤ c.n ∧ c.n ≤ 2000000000
  row : ∀ c ∈ r.cs, c.r.length ≤ 13 ∧ VsOk c.r
  len : r.cs.length ≤ 60
theorem BgQ.ch {W M : Nat} {s : ByteArray} {cs : List C2} (h : BgQ W M 60 cs) (hs : s.size ≤ 1) (hM : M ≤ 2000) (hW : W ≤ 3) : ChR ⟨s, W, cs⟩ ∧ (csN cs).length ≤ 2400 := by
  refine ⟨⟨by dsimp only; omega, by dsimp only; omega, by dsimp only; omega, fun c hc => by have := h.num c hc; omega, fun c hc => ⟨by have := (h.row c hc).1; omega, (h.row c hc).2⟩, h.len⟩, ?_⟩
  have := csN_small (k := 3) fun c hc => ⟨by have := (h.row c hc).1; omega, (h.row c hc).2⟩
  have := h.len
  omega
theorem BgJ.ch {W : Int} {s : ByteArray} {cs : List C2} (h : BgJ W cs) (hs : s.size ≤ 2) : ChR ⟨s, W, cs⟩ ∧ (csN cs).length ≤ 5560 := by
  refine ⟨⟨hs, h.w0, h.w1, h.num, h.row, by have := h.len; dsimp only; omega⟩, ?_⟩
  have := csN_small (k := 13) h.row
  have := h.len
  omega
structure ChW (w wo wr : World) (X B : Nat) (v : Value) (l : Nat) (W : Nat) (u : Value) (cs : List C2) (us : List Value) (G : List (List Nat)) : Prop where
  xb : wr.heap[X]? = some (.cells #[.int .i64 W, u] 71 (0, 0))
  xl : wo.heap.size ≤ X
  ol : w.heap.size ≤ wo.heap.size
  own : BagOwn wr wo.heap.size u cs us G
  xo : u.ownBlock ≠ some X
  xg : X ∉ G.flatten
  D : Drew B v l w wr
  z : wo.heap.size ≤ wr.heap.size
  kp : ∀ b, b < wo.heap.size → b ≠ B → wr.heap[b]? = wo.heap[b]?
section
variable {w wo wr wn : World} {X B : Nat} {v : Value} {l : Nat} {W : Nat} {u : Value} {cs : List C2} {us : List Value} {G : List (List Nat)}
theorem ChW.xlt (h : ChW w wo wr X B v l W u cs us G) : X < wr.heap.size := heap_ltA h.xb
theorem ChW.drew (h : ChW w wo wr X B v l W u cs us G) (hd : Drew B v l wr wn) : ChW w wo wn X B v l W u cs us G := by
  have hB := h.D.lt
  have hx := h.xl
  have ho := h.ol
  have hz := h.z
  exact ⟨hd.cellsB h.xb (by omega), h.xl, h.ol, h.own.keep hd.chg.size fun b h1 h2 => hd.old h2 (by omega), h.xo, h.xg, h.D.trans hd, Nat.le_trans hz hd.chg.size, fun b h1 h2 => (hd.old (by omega) h2).trans (h.kp b h1 h2)⟩
theorem ChW.below (h : ChW w wo wr X B v l W u cs us G) (hb : Below wr.heap.size wr wn) : ChW w wo wn X B v l W u cs us G := by
  have hz := h.z
  exact ⟨(hb.block _ h.xlt).trans h.xb, h.xl, h.ol, h.own.below hb, h.xo, h.xg, h.D.below hb, Nat.le_trans hz hb.size, fun b h1 h2 => (hb.block b (by omega)).trans (h.kp b h1 h2)⟩
theorem ChW.put {w5 : World} {P : List C2} {us5 : List Value} {G5 : List (List Nat)} {u5 : Value} (h : ChW w wo wr X B v l W u cs us G) (hB5 : BagOwn w5 wo.heap.size u5 P us5 G5) (p3 : ∀ b, b < wr.heap.size → u5.ownBlock = some b → u.ownBlock = some b) (p4 : ∀ b, b < wr.heap.size → b ∈ G5.flatten → b ∈ G.flatten) (hb5 : Below wo.heap.size wr w5) (hg : wr.grownBy w5 u.ownBlock) :
    ChW w wo ((w5.setCell ⟨X, 0, none⟩ (.int .i64 W)).setCell ⟨X, 1, none⟩ u5) X B v l W u5 P us5 G5 := by
  have hX := h.xlt
  have hx := h.xl
  have ho := h.ol
  have hz := h.z
  have hl := h.D.lt
  have hol := ownsRow_lt h.own.own
  have hxo : u5.ownBlock ≠ some X := fun e => h.xo (p3 X hX e)
  have hxg : X ∉ G5.flatten := fun e => h.xg (p4 X hX e)
  have hX5 : w5.heap[X]? = wr.heap[X]? := hg.block X hX fun e => h.xo e.symm
  have far : ∀ b, b ≠ X → ((w5.setCell ⟨X, 0, none⟩ (.int .i64 W)).setCell ⟨X, 1, none⟩ u5).heap[b]? = w5.heap[b]? := fun b hb => far2 _ _ hb
  refine ⟨set2 (hX5.trans h.xb) _ _, hx, ho, hB5.keepO (by simp) (fun b hb => far b (by rintro rfl; exact hxo hb)) (fun b hb => far b (by rintro rfl; exact hxg hb)), hxo, hxg, ?_, by simp; exact Nat.le_trans hz hg.size, fun b h1 h2 => ?_⟩
  · exact ((drew_grown h.D hg fun b hb => by have := (hol b hb).1; omega).set (p := ⟨X, 0, none⟩) (by simp; omega) _).set (p := ⟨X, 1, none⟩) (by simp; omega) _
  · exact (far b (by omega)).trans ((hg.block b (by omega) fun e => by have := (hol b e.symm).1; omega).trans (h.kp b h1 h2))
end
theorem db_at {w : World} {b o c n : Nat} {ds : List R3} {F : List Nat} (h : RelsF w (.slice (some ⟨b, o, none⟩) n c) ds F) {i : Nat} (hi : i < ds.length) :
    n = ds.length ∧ b ∈ F ∧ b < w.heap.size ∧ ∃ x u g, ds[i]? = some x ∧ w.cell? ⟨b, o + i * 3, none⟩ = some (.string x.s) ∧ w.cell? ⟨b, o + i * 3 + 1, none⟩ = some (.int .i64 x.W) ∧ w.cell? ⟨b, o + i * 3 + 2, none⟩ = some u ∧ RowsF w u x.cs g ∧ ∀ y ∈ g, y ∈ F := by
  obtain ⟨a, c', G, e, hl, hc, hz, hG, h0, h⟩ := h
  obtain ⟨b', o', ha, hlt, hF, hL⟩ := h (by rintro rfl; simp at hi)
  subst ha
  injection e with e1 e2 e3
  injection e1 with e1
  injection e1 with e4 e5
  subst e4 e5
  obtain ⟨u, h0, h1, h2, h3⟩ := hL i ds[i] (G[i]'(by omega)) (by simp [hi]) (by simp)
  refine ⟨e2, by rw [hF]; exact List.mem_cons_self, hlt, ds[i], u, _, by simp [hi], h0, h1, h2, h3, fun y hy => ?_⟩
  rw [hF]
  exact List.mem_cons_of_mem _ (List.mem_flatten.2 ⟨_, List.getElem_mem _, hy⟩)
end Go.Proofs.YtbmoimfimeiglaaGreat
namespace Go.Proofs.YtbmoimfimeiglaaGreat
open Go.RowKit Go.Deep Go.ChangeShapes Go.WideShapes
set_option linter.unusedVariables false
attribute [local go_sem ↓] Go.wp_at_zero Go.wp_at_succ
theorem BgQ.up {W M L M' L' : Nat} {cs : List C2} (h : BgQ W M L cs) (hM : M ≤ M') (hL : L ≤ L') : BgQ W M' L' cs := ⟨h.asc, h.nz, fun c hc => by have := h.num c hc; omega, h.row, Nat.le_trans h.len hL⟩
theorem rows_at {w : World} {u : Value} {cs : List C2} {g : List Nat} (h : RowsF w u cs g) {j : Nat} (hj : j < cs.length) :
    ∃ b2 o2 cc y ur gr, u = .slice (some ⟨b2, o2, none⟩) cs.length cc ∧ b2 < w.heap.size ∧ cs[j]? = some y ∧ w.cell? ⟨b2, o2 + j * 2, none⟩ = some ur ∧ RowF w ur y.r gr ∧ w.cell? ⟨b2, o2 + j * 2 + 1, none⟩ = some (.int .i64 y.n) ∧ (∀ t ∈ gr, t ∈ g) ∧ cs.length ≤ cc ∧ cc ≤ maxLen := by
  obtain ⟨a, cc, b2, o2, G2, rfl, hlc, hcm, _, hG2, _, hC, ha⟩ := h.pick
  obtain ⟨rfl, hb2, hF2⟩ := ha j hj
  obtain ⟨ur, h0, h1, h2⟩ := hC j cs[j] (G2[j]'(by omega)) (by simp [hj]) (by simp)
  exact ⟨b2, o2, cc, cs[j], ur, _, rfl, hb2, by simp [hj], h0, h1, h2, (fun t ht => by rw [hF2]; exact List.mem_cons_of_mem _ (List.mem_flatten.2 ⟨_, List.getElem_mem _, ht⟩)), hlc, hcm⟩
set_option maxHeartbeats 8000000 in
set_option maxRecDepth 100000 in
theorem l05Change_any (B : Nat) (v : Value) (l : Nat) (w : World) (h : Cur w B v l) (b o c : Nat) (ds : List R3) (F : List Nat) (hd : RelsF w (.slice (some ⟨b, o, none⟩) 3 c) ds F) (hFB : B ∉ F) (hn : ds.length = 3) (hds : ∀ i r, ds[i]? = some r → DbR (i + 1) r) :
    Calls Tryz.prog 55 #[.pointer (some ⟨B, 0, none⟩), .slice (some ⟨b, o, none⟩) 3 c] w fun e w' => (∃ (u : Value) (rs : List R3) (us : List Value) (G : List (List Nat)), e = .returned u ∧ rs.length ≤ 4 ∧ chB rs ≤ 12760 ∧ (∀ r ∈ rs, ChR r) ∧ RelOwn w' w.heap.size u rs us G) ∧ Drew B v l w w' := by
  obtain ⟨i0, hi, hz0, hz1, hz2'⟩ := info_parts infoRel9
  have hBl := h.lt
  have hbF0 : b ∈ F ∧ b < w.heap.size := by obtain ⟨-, h1, h2, _⟩ := db_at hd (i := 0) (by omega); exact ⟨h1, h2⟩
  have hbB : b ≠ B := fun e => hFB (e ▸ hbF0.1)
  have hbN : ¬ w.heap.size ≤ b := by have := hbF0.2; omega
  go_enter Tryz.func55, Tryz.ntmps55
  go_wp2
  go_loopw [5, 6] (fun y i wr => ∃ (k : Nat) (rs : List R3) (us : List Value) (G : List (List Nat)), k ≤ 3 ∧ i = .int .i64 k ∧ rs.length ≤ k ∧ chB rs ≤ 2400 * k ∧ (∀ r ∈ rs, ChR r) ∧ RelOwn wr w.heap.size y rs us G ∧ Drew B v l w wr) (fun _ i _ => 3 - (intOf i).toNat)
  case atStart =>
    exact ⟨0, [], [], [], by omega, rfl, by simp, by simp [chB], (fun r hr => by cases hr), RelOwn.empty' (by simp), h.start.alloc _⟩
  case round =>
    clear h
    obtain ⟨k, rs, us, G, hk, rfl, hrl, hcb, hro, hB, hD⟩ := hrel
    have hzr := hD.chg.size
    generalize wr = wo at *
    by_cases hlt : k < 3
    · have hdo : RelsF wo (.slice (some ⟨b, o, none⟩) 3 c) ds F := hd.chg hD.chg fun t ht e => hFB ((List.mem_singleton.1 e) ▸ ht)
      obtain ⟨-, -, hbl, x, u, g, hx, c0, c1, c2, hR, hgF⟩ := db_at hdo (i := k) (by omega)
      obtain ⟨hXs, hXw, hXi⟩ := hds k x hx
      obtain ⟨Wn, hWn⟩ : ∃ Wn : Nat, Wn = k + 1 := ⟨_, rfl⟩
      rw [← hWn] at hXw hXi
      rw [hXw] at c1
      have hW3 : Wn ≤ 3 := by omega
      have hkI : (k : Int) < 3 := by omega
      have hin : (decide ((0 : Int) ≤ (Wn : Int)) && decide ((Wn : Int) ≤ 3)) = true := by simp; omega
      have hxl := hXi.len
      obtain ⟨au, cu, rfl⟩ : ∃ au cu, u = .slice au x.cs.length cu := by obtain ⟨a, cc, _, _, _, e, _⟩ := hR.pick; exact ⟨a, cc, e⟩
      have hvl := ownsRow_lt hB.own
      have hGl := hB.lt
      clear hdo hd hx hWn hXw hn hds
      go_wp2_with fail
      refine Calls.mono (l01Once_any 3 B v l wo hD.cur (by omega) (by omega)) ?_
      rintro e w1 ⟨⟨o1, rfl⟩, hd1⟩
      have hD1 := hD.trans hd1
      have hz1' := hd1.chg.size
      have e1 := (cell_blk (o := o + k * 3 + 1) (hd1.old hbl hbB)).trans c1
      cases o1
      · have hb1 : b < w1.heap.size := by omega
        go_wp2_with fail
        refine Calls.mono (l01In_any (Wn : Int) 0 3 w1) ?_
        rintro e w2 ⟨rfl, hb2⟩
        rw [hin]
        have hD2 := hD1.below hb2
        have e2 := (cell_blk (o := o + k * 3 + 1) (hb2.block b hb1)).trans e1
        have hz2a := hb2.size
        have hk2 : ∀ t, t < wo.heap.size → t ≠ B → w2.heap[t]? = wo.heap[t]? := fun t h1 h2 => (hb2.block t (by omega)).trans (hd1.old h1 h2)
        have hb2l : b < w2.heap.size := by omega
        clear hd1 hb2 e1
        go_wp2_with fail
        refine Calls.mono (l02Bag_any B v l Wn false w2 hD2.cur (by omega)) ?_
        rintro e w3 ⟨⟨ub, cs3, us3, G3, rfl, hI, hB3⟩, hd3⟩
        obtain ⟨a3, c3, rfl⟩ := hB3.shape
        have hz3a := hd3.chg.size
        have hS : ChW w wo (w3.alloc (.cells #[.int .i64 Wn, .slice a3 cs3.length c3] 71)) w3.heap.size B v l Wn (.slice a3 cs3.length c3) cs3 us3 G3 := by
          have bal : Below w3.heap.size w3 (w3.alloc (.cells #[.int .i64 Wn, .slice a3 cs3.length c3] 71)) := (Below.refl _ _).alloc (Nat.le_refl _) _
          exact ⟨heap_alloc_new w3 _, by omega, hzr, (hB3.below bal).weak (by omega), (fun e => by have := (ownsRow_lt hB3.own _ e).2; omega), (fun hg => by have := hB3.lt _ hg; omega), (hD2.trans hd3).below bal, by simp; omega, fun t h1 h2 => (bal.block t (by omega)).trans ((hd3.old (by omega) h2).trans (hk2 t h1 h2))⟩
        clear hB3 hd3 hD2 hk2 e2 hD1
        go_wp2_with fail
        generalize w3.alloc (.cells #[.int .i64 Wn, .slice a3 cs3.length c3] 71) = wb at *
        generalize w3.heap.size = X at *
        go_loopw [8] (fun j wr => ∃ (q : Nat) (u : Value) (cs : List C2) (us : List Value) (G : List (List Nat)), q ≤ x.cs.length ∧ j = .int .i64 q ∧ BgQ Wn (30 + 30 * q) (30 + q) cs ∧ ChW w wo wr X B v l Wn u cs us G) (fun j _ => x.cs.length - (intOf j).toNat)
        case atStart => exact ⟨0, _, _, _, _, Nat.zero_le _, rfl, hI.q, hS⟩
        case round =>
          clear hS hI
          obtain ⟨q, u, cs, us', G', hq, rfl, hI, hS⟩ := hrel
          have hsz := hS.z
          have kb := hS.kp b hbl hbB
          have d2 := (cell_blk (o := o + k * 3 + 2) kb).trans c2
          have hbr : b < wr.heap.size := by omega
          by_cases hl2 : q < x.cs.length
          · have hRr := hR.keep hsz fun t ht => hS.kp t (hR.lt t ht) (fun e => hFB (e ▸ hgF t ht))
            obtain ⟨b2, o2, cc2, y, ur, gr, e2, hb2l, hy, r0, hRF, r1, hgr, hlc2, hcm2⟩ := rows_at hRr hl2
            have hgB : ∀ t ∈ gr, t ≠ B := fun t ht e => hFB (e ▸ hgF t (hgr t ht))
            injection e2 with e2a e2b e2c
            subst e2a e2c
            unfold maxLen at hcm2
            obtain ⟨ra, rc', rfl⟩ := hRF.shapeX
            have hym := List.mem_of_getElem? hy
            have HRow : Hid (y.r.length = Wn ∧ VsOk y.r) := hXi.row y hym
            have hyn := hXi.num y hym
            clear hy hgr hRr
            go_wp2_with fail
            have hS1 := hS.below (wn := wr.alloc (.cells #[.slice ra y.r.length rc', .int .i64 y.n] 112)) ((Below.refl _ _).alloc (Nat.le_refl _) _)
            have hRb := heap_alloc_new wr (.cells #[.slice ra y.r.length rc', .int .i64 y.n] 112)
            have hRF1 := hRF.belowX (w' := wr.alloc (.cells #[.slice ra y.r.length rc', .int .i64 y.n] 112)) ((Below.refl _ _).alloc (Nat.le_refl _) _)
            have hRFl := hRF.lt
            have hRlt : wr.heap.size < (wr.alloc (.cells #[.slice ra y.r.length rc', .int .i64 y.n] 112)).heap.size := by simp
            generalize wr.alloc (.cells #[.slice ra y.r.length rc', .int .i64 y.n] 112) = wa at *
            refine Calls.mono (l01Once_any 2 B v l wa hS1.D.cur (by omega) (by omega)) ?_
            rintro e w2 ⟨⟨o2', rfl⟩, hd2⟩
            have hS2 := hS1.drew hd2
            have hR2 := hd2.cellsB hRb (by omega)
            have hRF2 := hRF1.keep hd2.chg.size fun t ht => hd2.old (hRF1.lt t ht) (hgB t ht)
            clear hS1 hRb hd2 hRF1
            cases o2'
            · go_wp2
              exact ⟨⟨q + 1, _, _, _, _, hl2, by simp, hI.up (by omega) (by omega), hS2⟩, by simp [intOf]; omega⟩
            obtain ⟨ad, cd, rfl⟩ := hS2.own.shape
            obtain ⟨p0, p1, pf⟩ := bag2 hS2.xb
            obtain ⟨q0, q1, _⟩ := bag2 hR2
            have hXl := hS2.xlt
            have hRl : wr.heap.size < w2.heap.size := heap_ltA hR2
            have hw1 : wrap64 (-y.n) = -y.n := by unfold wrap64; omega
            have hw2 : IntKind.i64.wrap (-y.n) = -y.n := by rw [IntKind.wrap_i64]; omega
            have hcn : ∀ c ∈ cs, -4000000000000000000 ≤ c.n ∧ c.n ≤ 4000000000000000000 := fun c hc => by have := hI.num c hc; omega
            have hcl : cs.length ≤ 2097152 := by have := hI.len; omega
            have hrn : y.r.length ≤ 1048576 := by have := HRow.out.1; omega
            go_wp2_with fail
            refine Calls.mono (l02Put_any Wn (-y.n) (.slice ad cs.length cd) (.slice ra y.r.length rc') cs us' G' y.r gr wo.heap.size w2 hS2.own hRF2 hI.asc hS2.z hcl hrn (by omega) (by omega) hcn _ rfl) ?_
            rintro e w5 ⟨u5, us5, G5, rfl, hB5, p3, p4, hb5, hg5⟩
            obtain ⟨a5, c5, rfl⟩ := hB5.shape
            have hS5 := hS2.put hB5 p3 p4 hb5 hg5
            have hX5 : w5.heap[X]? = w2.heap[X]? := hg5.block X hXl fun e => hS2.xo e.symm
            have z0 := (cell_blk (o := 0) hX5).trans p0
            have z1 := (cell_blk (o := 1) hX5).trans p1
            have zf : ∀ i, w5.frozen? ⟨X, i, none⟩ = false := fun i => (frozen_blk hX5).trans (pf i)
            have hI5 : BgQ Wn (30 + 30 * (q + 1)) (30 + (q + 1)) (putC cs y.r (-y.n)) := (hI.put HRow.out (by omega) (by omega)).up (by omega) (by omega)
            clear hS2 hB5 p3 p4 hb5 hg5 hX5 hI hRF2 p0 p1 pf q0 q1 hR2 hcn hcl
            go_wp2
            exact ⟨⟨q + 1, _, _, _, _, hl2, by simp, hI5, hS5⟩, by simp [intOf]; omega⟩
          · obtain rfl : q = x.cs.length := by omega
            obtain ⟨ad, cd, rfl⟩ := hS.own.shape
            obtain ⟨p0, p1, pf⟩ := bag2 hS.xb
            have hXl := hS.xlt
            have n0 := (cell_blk (o := o + k * 3) kb).trans c0
            obtain ⟨g2, hR2, hO2⟩ := hS.own.rowsF
            have hO2' : ∀ t ∈ g2, wo.heap.size ≤ t := fun t ht => hO2.2.1 t ht
            have hB3 : RelOwn wr w.heap.size u5 rs us G := hB.keep hsz fun t h1 h2 => hS.kp t h2 (by omega)
            have hyb : u5.ownBlock ≠ some b := fun e => hbN (hvl b e).1
            have hyX : u5.ownBlock ≠ some X := fun e => by have := (hvl X e).2; have := hS.xl; omega
            go_wp2_with fail
            refine startE 10 (fun w' => w'.cell? ⟨b, o + k * 3, none⟩ = some (.string x.s) ∧ w'.cell? ⟨X, 0, none⟩ = some (.int .i64 Wn) ∧ w'.cell? ⟨X, 1, none⟩ = some (.slice ad cs.length cd)) (by kernel_rfl) ?_ (fun hHeld => ?_)
            · (try dsimp only)
              exact ⟨n0, p0, p1⟩
            refine tkE (i := 0) (d := 70) (v := ?_) rfl rfl ?_ ?_
            rotate_left
            · intro w' hSw; (try dsimp only at hSw); go_simp; try exact rfl
            try simp only [List.setIfInBounds_toArray, List.set_cons_zero, List.set_cons_succ]
            refine tkE (i := 1) (d := 71) (v := ?_) rfl rfl ?_ ?_
            rotate_left
            · intro w' hSw; (try dsimp only at hSw); go_simp; try exact rfl
            try simp only [List.setIfInBounds_toArray, List.set_cons_zero, List.set_cons_succ]
            refine tkE (i := 2) (d := 72) (v := ?_) rfl rfl ?_ ?_
            rotate_left
            · intro w' hSw; (try dsimp only at hSw); go_simp; try exact rfl
            try simp only [List.setIfInBounds_toArray, List.set_cons_zero, List.set_cons_succ]
            refine tkE (i := 3) (d := 73) (v := ?_) rfl rfl ?_ ?_
            rotate_left
            · intro w' hSw; (try dsimp only at hSw); go_simp; try exact rfl
            try simp only [List.setIfInBounds_toArray, List.set_cons_zero, List.set_cons_succ]
            refine tkE (i := 4) (d := 74) (v := ?_) rfl rfl ?_ ?_
            rotate_left
            · intro w' hSw; (try dsimp only at hSw); go_simp; try exact rfl
            try simp only [List.setIfInBounds_toArray, List.set_cons_zero, List.set_cons_succ]
            refine tkE (i := 5) (d := 75) (v := ?_) rfl rfl ?_ ?_
            rotate_left
            · intro w' hSw; (try dsimp only at hSw); go_simp; try exact rfl
            try simp only [List.setIfInBounds_toArray, List.set_cons_zero, List.set_cons_succ]
            refine tkE (i := 6) (d := 76) (v := ?_) rfl rfl ?_ ?_
            rotate_left
            · intro w' hSw; (try dsimp only at hSw); go_simp; try exact rfl
            try simp only [List.setIfInBounds_toArray, List.set_cons_zero, List.set_cons_succ]
            refine tkE (i := 7) (d := 77) (v := ?_) rfl rfl ?_ ?_
            rotate_left
            · intro w' hSw; (try dsimp only at hSw); go_simp; try exact rfl
            try simp only [List.setIfInBounds_toArray, List.set_cons_zero, List.set_cons_succ]
            refine oneE (i := 8) (by kernel_rfl) rfl (fun K hK => ?_)
            go_simp
            refine hK.out _ _ ?_ (fun hHeld8 => ?_)
            · intro _
              (try dsimp only)
              exact ⟨(cell_blk (Below.heap_alloc wr _ _ (by omega))).trans n0, (cell_blk (Below.heap_alloc wr _ _ (by omega))).trans p0, (cell_blk (Below.heap_alloc wr _ _ (by omega))).trans p1⟩
            clear hK
            replace hHeld8 := hHeld8 (by decide)
            try simp only [List.setIfInBounds_toArray, List.set_cons_zero, List.set_cons_succ]
            refine oneE (i := 9) (by kernel_rfl) rfl (fun K hK => ?_)
            refine step_append_lies _ (by rfl) _ _ _ (by rfl) w.heap.size 73 i0 _ 3 48 Tryz.underlying25 hi hz0 hz1 hz2' rfl (by omega) u5 rs.length (rcs us rs) (by rfl) (hB3.own.alloc _) ⟨wr.heap.size, 0, none⟩ 1 1 [.string x.s, .int .i64 Wn, .slice ad cs.length cd] (by rfl) (by rfl) (World.news_of_block (cs := #[.string x.s, .int .i64 Wn, .slice ad cs.length cd]) (t := 73) (fr := (0, 0)) (heap_alloc_new wr _)) (by simp [Value.oneCell']) (by omega) (by unfold maxLen; omega) (by omega) (by simp; omega) (wr.heap.size + 1) (by simp) ?_
            intro gg cap w3 hown3 hgrow hat hlt3
            have hz3 := hgrow.size
            simp at hz3
            have al2 : Below wr.heap.size wr (wr.alloc (.cells #[.string x.s, .int .i64 Wn, .slice ad cs.length cd] 73)).drew := ((Below.refl _ _).alloc (Nat.le_refl _) _).drew
            have far : ∀ t, t < wr.heap.size → u5.ownBlock ≠ some t → w3.heap[t]? = wr.heap[t]? := fun t h1 h2 => (hgrow.block _ (by simp; omega) (Ne.symm h2)).trans (Below.heap_alloc _ _ _ (by omega))
            have f0 := (cell_blk (o := o + k * 3) (far b (by omega) hyb)).trans n0
            have f1 := (cell_blk (o := 0) (far X hXl hyX)).trans p0
            have f2 := (cell_blk (o := 1) (far X hXl hyX)).trans p1
            have hBp := RelOwn.push (x := ⟨x.s, Wn, cs⟩) (hB3.below al2) (hR2.below al2) ⟨hO2.1, fun t ht => by have := hO2' t ht; omega, fun t ht q => (frozen_blk (al2.block t (hR2.lt t ht))).trans (hO2.2.2 t ht q)⟩ (fun t ht ht' => by have := hO2' t ht'; have := hGl t ht; omega) (fun t ht ht' => by have := hO2' t ht'; have := (hvl t ht).2; omega) hown3 hgrow (fun t ht => by simp [Value.ownBlock] at ht; subst ht; rcases hat with h | h; exact .inl h; exact .inr (by simp; omega))
            have hD3 : Drew B v l w w3 := drew_grown (hS.D.below al2) hgrow (fun t ht => (hvl t ht).1)
            refine hK.out _ _ ?_ (fun hHeld9 => ?_)
            · intro _
              (try dsimp only)
              exact ⟨f0, f1, f2⟩
            clear hK
            replace hHeld9 := hHeld9 (by decide)
            try simp only [List.setIfInBounds_toArray, List.set_cons_zero, List.set_cons_succ]
            refine oneE (i := 10) (by kernel_rfl) rfl (fun K hK => ?_)
            go_simp
            refine hK.out _ _ ?_ (fun hHeld10 => ?_)
            · exact fun h => absurd rfl h
            clear hK hHeld10
            try simp only [List.setIfInBounds_toArray, List.set_cons_zero, List.set_cons_succ]
            refine doneE (by kernel_rfl) ?_ _
            obtain ⟨hch, hcb2⟩ := BgQ.ch (s := x.s) (hI.up (M' := 2000) (L' := 60) (by omega) (by omega)) hXs (by omega) hW3
            have hro2 : ∀ r ∈ rs ++ [(⟨x.s, Wn, cs⟩ : R3)], ChR r := fun r hr => by
              rcases List.mem_append.1 hr with hr | hr
              · exact hro r hr
              · rcases List.mem_singleton.1 hr with rfl; exact hch
            have hcb3 : chB (rs ++ [(⟨x.s, Wn, cs⟩ : R3)]) ≤ 2400 * (k + 1) := by rw [chB_push]; dsimp only; omega
            clear hown3 hat hB3 hR2 hO2 hO2' hB hHeld hHeld8 hHeld9 f0 f1 f2 n0 p0 p1 pf al2 far hS hR
            go_wp2
            exact ⟨⟨k + 1, _, _, _, by omega, by simp, by simp; omega, hcb3, hro2, hBp, hD3⟩, by simp [intOf]; omega⟩
      · have hcb' : chB rs ≤ 2400 * (k + 1) := by omega
        go_wp2
        exact ⟨⟨k + 1, rs, us, G, by omega, by simp, by omega, hcb', hro, hB.keep hz1' fun t h1 h2 => hd1.old h2 (by omega), hD1⟩, by simp [intOf]; omega⟩
    · obtain rfl : k = 3 := by omega
      go_wp2_with fail
      refine Calls.mono (l01Once_any 12 B v l wo hD.cur (by omega) (by omega)) ?_
      rintro e w1 ⟨⟨o1, rfl⟩, hd1⟩
      have hD1 := hD.trans hd1
      have hz1' := hd1.chg.size
      have hB1 := hB.keep hz1' fun t h1 h2 => hd1.old h2 (by omega)
      clear hd1 hD hB
      cases o1
      · go_wp2
        go_returns
        exact ⟨⟨_, rs, us, G, rfl, by omega, by omega, hro, hB1⟩, hD1⟩
      · go_wp2_with fail
        refine Calls.mono (pick_lit 2 2 _ B v l w1 _ hD1.cur (by omega) (by omega) (by rfl) rfl) ?_
        rintro e w2 ⟨⟨x, rfl, hx⟩, hd2⟩
        have hD2 := hD1.trans hd2
        have hz2 := hd2.chg.size
        have hB2 := hB1.keep hz2 fun t h1 h2 => hd2.old h2 (by omega)
        clear hd2 hD1 hB1
        go_wp2_with fail
        refine Calls.mono (l02Any_any B v l w2 hD2.cur) ?_
        rintro e w3 ⟨⟨W, ub, cs, us2, G2, rfl, hJ, hBb⟩, hd3⟩
        obtain ⟨ad, cd, rfl⟩ := hBb.shape
        obtain ⟨g2, hR2, hO2⟩ := hBb.rowsF
        have hO2' : ∀ t ∈ g2, w2.heap.size ≤ t := fun t ht => hO2.2.1 t ht
        have hvl := ownsRow_lt hB2.own
        have hGl := hB2.lt
        have hD3 := hD2.trans hd3
        have hz3 := hd3.chg.size
        have hB3 := hB2.keep hz3 fun t h1 h2 => hd3.old h2 (by omega)
        clear hd3 hD2 hB2 hBb
        have al2 : Below w3.heap.size w3 (w3.alloc (.cells #[.string x, .int .i64 W, .slice ad cs.length cd] 73)) := (Below.refl _ _).alloc (Nat.le_refl _) _
        go_wp2_with (at_builtin; refine wpList_append_own_at _ rfl _ _ 25 rfl w.heap.size 73 i0 _ 3 48 Tryz.underlying25 hi hz0 hz1 hz2' rfl (by decide) u5 rs.length (rcs us rs) rfl (hB3.own.alloc _) ⟨w3.heap.size, 0, none⟩ 1 1 [.string x, .int .i64 W, .slice ad cs.length cd] rfl (by simp) ?c1 ?c2 ?c3 ?c4 ?c5 ?_)
        case c1 => exact World.news_of_block (cs := #[.string x, .int .i64 W, .slice ad cs.length cd]) (t := 73) (fr := (0, 0)) (heap_alloc_new w3 _)
        case c2 => simp [Value.oneCell']
        case c3 => unfold maxLen; omega
        case c4 => omega
        case c5 => simp; omega
        intro v5 w5 hown5 hgr5 _ hat5
        have hsz5 := hgr5.size
        simp at hsz5
        have hBp := RelOwn.push (x := ⟨x, W, cs⟩) (hB3.below al2) (hR2.below al2) ⟨hO2.1, fun t ht => by have := hO2' t ht; omega, fun t ht q => (frozen_blk (Below.heap_alloc _ _ _ (hR2.lt t ht))).trans (hO2.2.2 t ht q)⟩ (fun t ht ht' => by have := hO2' t ht'; have := hGl t ht; omega) (fun t ht ht' => by have := hO2' t ht'; have := (hvl t ht).2; omega) hown5 hgr5 (fun t ht => by rcases hat5 with h | h; (left; rw [← h]; exact ht); (right; rw [h] at ht; cases ht; (first | exact Nat.le_refl _ | (simp; done) | (simp; omega))))
        have hD5 : Drew B v l w w5 := drew_grown (hD3.below al2) hgr5 (fun t ht => (hvl t ht).1)
        obtain ⟨hch, hcb2⟩ := BgJ.ch hJ hx
        have hcb3 : chB (rs ++ [(⟨x, W, cs⟩ : R3)]) ≤ 12760 := by rw [chB_push]; dsimp only; omega
        have hro2 : ∀ r ∈ rs ++ [(⟨x, W, cs⟩ : R3)], ChR r := fun r hr => by
          rcases List.mem_append.1 hr with hr | hr
          · exact hro r hr
          · rcases List.mem_singleton.1 hr with rfl; exact hch
        obtain ⟨a5, c5, rfl⟩ := hBp.shape
        clear hown5 hgr5 hat5 hB3 hR2 hO2 hO2' hD3
        go_wp2
        go_returns
        exact ⟨⟨_, _, _, _, rfl, by simp; omega, hcb3, hro2, hBp⟩, hD5⟩
end Go.Proofs.YtbmoimfimeiglaaGreat
