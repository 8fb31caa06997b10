/- Own texts, joined: contracts that the law's proof goes by. -/
import Derived.Test.YtaeibfipcenhaaaGreatDoorGLViewsOk15
import Derived.Test.YtaeibfipcenhaaaGreatDoorGLViewsOk17
import Derived.Test.YtaeibfipcenhaaaGreatDoorGLViewsOk18
import Derived.Maps.RangeWalk
import Derived.Handy
namespace Go.Proofs.YtaeibfipcenhaaaGreatDoor
open Go.RowKit
set_option linter.unusedVariables false
/-! ### bytes tell a row -/
theorem wf64 {n : Int} (h : (Lit.int .i64 n).wf = true) : -9223372036854775808 ≤ n ∧ n ≤ 9223372036854775807 := by
  have e1 : IntKind.i64.min = -9223372036854775808 := rfl
  have e2 : IntKind.i64.max = 9223372036854775807 := rfl
  simp [Lit.wf, e1, e2] at h
  omega
theorem byte_step {x y M : Int} (hM : 0 < M) (h1 : x / (M * 256) = y / (M * 256)) (h2 : x / M % 256 = y / M % 256) : x / M = y / M := by
  have a : x / M / 256 = x / (M * 256) := Int.ediv_ediv_of_nonneg (Int.le_of_lt hM)
  have b : y / M / 256 = y / (M * 256) := Int.ediv_ediv_of_nonneg (Int.le_of_lt hM)
  rw [← a, ← b] at h1
  omega
theorem numB_inj {n m : Int} (hn : (Lit.int .i64 n).wf = true) (hm : (Lit.int .i64 m).wf = true) (h : ∀ j, j < 8 → numB n j = numB m j) : n = m := by
  have e0 := h 0 (by omega); have e1 := h 1 (by omega); have e2 := h 2 (by omega); have e3 := h 3 (by omega)
  have e4 := h 4 (by omega); have e5 := h 5 (by omega); have e6 := h 6 (by omega); have e7 := h 7 (by omega)
  have bn := wf64 hn
  have bm := wf64 hm
  have wn : IntKind.u64.wrap n = n % 18446744073709551616 := by simp [IntKind.wrap, IntKind.bits, IntKind.signed]
  have wm : IntKind.u64.wrap m = m % 18446744073709551616 := by simp [IntKind.wrap, IntKind.bits, IntKind.signed]
  simp only [numB, wn, wm] at e0 e1 e2 e3 e4 e5 e6 e7
  have key : n % 18446744073709551616 = m % 18446744073709551616 := by
    have a1 := Int.emod_nonneg n (show (18446744073709551616 : Int) ≠ 0 by decide)
    have a2 := Int.emod_lt_of_pos n (show (0 : Int) < 18446744073709551616 by decide)
    have b1 := Int.emod_nonneg m (show (18446744073709551616 : Int) ≠ 0 by decide)
    have b2 := Int.emod_lt_of_pos m (show (0 : Int) < 18446744073709551616 by decide)
    generalize n % 18446744073709551616 = x at *
    generalize m % 18446744073709551616 = y at *
    have s7 : x / 72057594037927936 = y / 72057594037927936 := by
      have e : x / 72057594037927936 % 256 = y / 72057594037927936 % 256 := e0
      clear e0 e1 e2 e3 e4 e5 e6 e7
      omega
    have s6 := byte_step (M := 281474976710656) (by decide) s7 e1
    have s5 := byte_step (M := 1099511627776) (by decide) s6 e2
    have s4 := byte_step (M := 4294967296) (by decide) s5 e3
    have s3 := byte_step (M := 16777216) (by decide) s4 e4
    have s2 := byte_step (M := 65536) (by decide) s3 e5
    have s1 := byte_step (M := 256) (by decide) s2 e6
    have s0 := byte_step (M := 1) (by decide) s1 e7
    simpa using s0
  omega
/-- the bytes of a value. -/
def vU (x : V3) : List UInt8 := (putS x.k x.n x.s).data.toList
theorem nums_list (xs : List Int) : (strOfNums xs).data.toList = xs.map fun n => UInt8.ofNat n.toNat := rfl
theorem empty_of {s : ByteArray} (h : (s.toList == []) = true) : s = ⟨#[]⟩ := by
  rw [beq_iff_eq, ByteArray.toList_eq] at h
  exact ByteArray.ext (Array.toList_inj.1 h)
theorem vU_form {x : V3} (h : okW x = true) :
    (x = ⟨0, 0, ⟨#[]⟩⟩ ∧ vU x = [0]) ∨ (x = ⟨1, x.n, ⟨#[]⟩⟩ ∧ vU x = 1 :: (List.range 8).map (fun j => UInt8.ofNat (numB x.n j).toNat)) ∨
    (x = ⟨2, x.n, ⟨#[]⟩⟩ ∧ (x.n = 0 ∨ x.n = 1) ∧ vU x = [2, UInt8.ofNat x.n.toNat]) ∨ (x = ⟨3, 0, x.s⟩ ∧ x.s.size ≤ 100 ∧ vU x = 3 :: UInt8.ofNat x.s.size :: x.s.data.toList) := by
  obtain ⟨k, n, s⟩ := x
  unfold okW at h
  dsimp only at h ⊢
  by_cases h0 : k = 0
  · subst h0
    have hp := putS_0 n s h
    rw [okB_0] at h
    simp only [Bool.and_eq_true, beq_iff_eq] at h
    obtain ⟨rfl, hs⟩ := h
    obtain rfl := empty_of (s := s) (by rw [beq_iff_eq]; exact hs)
    exact .inl ⟨rfl, by unfold vU; dsimp only; rw [hp, nums_list]; rfl⟩
  by_cases h1 : k = 1
  · subst h1
    have hp := putS_1 n s h
    rw [okB_1] at h
    obtain rfl := empty_of h
    refine .inr (.inl ⟨rfl, ?_⟩)
    unfold vU; dsimp only; rw [hp, nums_list, numL, List.map_cons, List.map_map]; rfl
  by_cases h2 : k = 2
  · subst h2
    have hp := putS_2 n s h
    have hn := okB_2n n s h
    rw [okB_2] at h
    simp only [Bool.and_eq_true] at h
    obtain rfl := empty_of h.2
    exact .inr (.inr (.inl ⟨rfl, hn, by unfold vU; dsimp only; rw [hp, nums_list]; rfl⟩))
  by_cases h3 : k = 3
  · subst h3
    have hp := putS_3 n s h
    have hs := okB_3s n s h
    rw [okB_3] at h
    simp only [Bool.and_eq_true, beq_iff_eq] at h
    obtain ⟨rfl, _⟩ := h
    refine .inr (.inr (.inr ⟨rfl, hs, ?_⟩))
    unfold vU; dsimp only; rw [hp, ByteArray.data_append, Array.toList_append, nums_list]
    simp
  · rw [okB_x k n s h0 h1 h2 h3] at h; cases h
theorem ofNat_inj {a b : Nat} (ha : a < 256) (hb : b < 256) (h : UInt8.ofNat a = UInt8.ofNat b) : a = b := by
  have := congrArg UInt8.toNat h
  simp [UInt8.toNat_ofNat'] at this
  omega
theorem numB_bd (n : Int) (j : Nat) : 0 ≤ numB n j ∧ numB n j < 256 := by unfold numB; omega
theorem vU_inj {x y : V3} {l l' : List UInt8} (hx : okW x = true) (hy : okW y = true) (wx : x.wf) (wy : y.wf) (h : vU x ++ l = vU y ++ l') : x = y ∧ l = l' := by
  rcases vU_form hx with ⟨ex, fx⟩ | ⟨ex, fx⟩ | ⟨ex, nx, fx⟩ | ⟨ex, sx, fx⟩ <;> rcases vU_form hy with ⟨ey, fy⟩ | ⟨ey, fy⟩ | ⟨ey, ny, fy⟩ | ⟨ey, sy, fy⟩ <;> rw [fx, fy] at h
  all_goals first | (exfalso; simp at h; done) | skip
  · rw [ex, ey]; exact ⟨rfl, by simpa using h⟩
  · have hl : ((List.range 8).map (fun j => UInt8.ofNat (numB x.n j).toNat)).length = ((List.range 8).map (fun j => UInt8.ofNat (numB y.n j).toNat)).length := by simp
    rw [List.cons_append, List.cons_append, List.cons.injEq] at h
    obtain ⟨h1, h2⟩ := List.append_inj h.2 hl
    have hn : x.n = y.n := numB_inj wx.2.1 wy.2.1 fun j hj => by
      have e := congrArg (fun l => l[j]?) h1
      simp only [List.getElem?_map, List.getElem?_range hj, Option.map_some, Option.some.injEq] at e
      have b1 := numB_bd x.n j
      have b2 := numB_bd y.n j
      have := ofNat_inj (by omega) (by omega) e
      omega
    rw [ex, ey, hn]; exact ⟨rfl, h2⟩
  · simp only [List.cons_append, List.nil_append, List.cons.injEq, true_and] at h
    have hn := ofNat_inj (by omega) (by omega) h.1
    have : x.n = y.n := by omega
    rw [ex, ey, this]; exact ⟨rfl, h.2⟩
  · simp only [List.cons_append, List.cons.injEq, true_and] at h
    have hn := ofNat_inj (by omega) (by omega) h.1
    obtain ⟨h1, h2⟩ := List.append_inj h.2 (by simpa using hn)
    have : x.s = y.s := ByteArray.ext (Array.toList_inj.1 h1)
    rw [ex, ey, this]; exact ⟨rfl, h2⟩
theorem rowU_cons (x : V3) (r : List V3) : rowU (x :: r) = vU x ++ rowU r := by unfold rowU vU; rw [List.flatMap_cons]
theorem rowU_inj : ∀ {r q : List V3}, r.length = q.length → r.all okW = true → q.all okW = true → VsWf r → VsWf q → rowU r = rowU q → r = q
  | [], [], _, _, _, _, _, _ => rfl
  | x :: r, y :: q, hl, hr, hq, wr, wq, h => by
    rw [rowU_cons, rowU_cons] at h
    rw [List.all_cons, Bool.and_eq_true] at hr hq
    obtain ⟨rfl, h2⟩ := vU_inj hr.1 hq.1 (wr x (by simp)) (wq y (by simp)) h
    rw [rowU_inj (by simpa using hl) hr.2 hq.2 (fun z hz => wr z (by simp [hz])) (fun z hz => wq z (by simp [hz])) h2]
/-- a right row of width W whose numbers and texts are such as there are. -/
def GoodRow (W : Int) (r : List V3) : Prop := okRow r W = true ∧ VsWf r
theorem GoodRow.inj {W : Int} {r q : List V3} (hr : GoodRow W r) (hq : GoodRow W q) (h : rowU r = rowU q) : r = q := by
  have a := hr.1; have b := hq.1
  simp only [okRow, Bool.and_eq_true, decide_eq_true_eq] at a b
  exact rowU_inj (by omega) a.2 b.2 hr.2 hq.2 h
/-! ### how often a row is there -/
def totC : List C2 → List V3 → Int
  | [], _ => 0
  | c :: cs, r => (if cmpRow c.r r = 0 then c.n else 0) + totC cs r
theorem totC_app (cs ds : List C2) (r : List V3) : totC (cs ++ ds) r = totC cs r + totC ds r := by
  induction cs with
  | nil => simp [totC]
  | cons c cs ih => rw [List.cons_append, totC, totC, ih]; omega
theorem totC_snoc (cs : List C2) (c : C2) (r : List V3) : totC (cs ++ [c]) r = totC cs r + if cmpRow c.r r = 0 then c.n else 0 := by
  rw [totC_app]; simp [totC]
theorem totC_none {cs : List C2} {r : List V3} (h : ∀ c ∈ cs, c.r ≠ r) : totC cs r = 0 := by
  induction cs with
  | nil => rfl
  | cons c cs ih =>
    rw [totC, if_neg (fun e => h c (by simp) ((cmpRow_0 _ _).1 e)), ih fun x hx => h x (by simp [hx])]; rfl
theorem totC_bound {cs : List C2} {M : Int} (h : ∀ c ∈ cs, -M ≤ c.n ∧ c.n ≤ M) (hM : 0 ≤ M) (r : List V3) : -(M * cs.length) ≤ totC cs r ∧ totC cs r ≤ M * cs.length := by
  induction cs with
  | nil => simp [totC]
  | cons c cs ih =>
    have h1 := h c (by simp)
    have h2 := ih fun x hx => h x (by simp [hx])
    rw [totC, List.length_cons]
    have e : M * ((cs.length + 1 : Nat) : Int) = M * cs.length + M := by rw [Int.natCast_add, Int.mul_add]; simp
    rw [e]
    generalize M * (cs.length : Int) = Q at *
    split <;> omega
end Go.Proofs.YtaeibfipcenhaaaGreatDoor
namespace Go.Proofs.YtaeibfipcenhaaaGreatDoor
open Go.RowKit
set_option linter.unusedVariables false
/-- what an element of the map reads as: its row's slice and its number. -/
def Rc (v : Value) : Option (DataW (Value × Int) × List MemPlace) := match v with
  | .agg cs => match cs.toList with
    | [.slice a l c, .int .i64 n] => some (.held (.slice a l c, n), [])
    | _ => none
  | _ => none
abbrev DT := DataW (Value × Int)
/-- the key of a row. -/
def klit (r : List V3) : Lit := .string (rowU r)
theorem klit_key (r : List V3) : WideAt.IsKeyLit (klit r) := trivial
theorem klit_inj {W : Int} {r q : List V3} (hr : GoodRow W r) (hq : GoodRow W q) (h : klit r = klit q) : r = q := hr.inj hq (by unfold klit at h; simpa using h)
/-- a row that lies in blocks below b. -/
def RowB (w : World) (b : Nat) (v : Value) (r : List V3) : Prop := ∃ g, RowF w v r g ∧ ∀ x ∈ g, x < b
theorem RowB.below {w w' : World} {b : Nat} {v : Value} {r : List V3} (h : RowB w b v r) (hb : Below b w w') : RowB w' b v r := by
  obtain ⟨g, hg, hl⟩ := h
  exact ⟨g, hg.keep hb.size fun x hx => hb.block x (hl x hx), hl⟩
theorem RowB.mono {w : World} {b b' : Nat} {v : Value} {r : List V3} (h : RowB w b v r) (hb : b ≤ b') : RowB w b' v r := by
  obtain ⟨g, hg, hl⟩ := h
  exact ⟨g, hg, fun x hx => Nat.lt_of_lt_of_le (hl x hx) hb⟩
/-- the datum D is the tally of the rows cs, each of them in blocks below b. -/
structure TallyOf (w : World) (b : Nat) (D : DT) (W : Int) (cs : List C2) : Prop where
  no : ∀ r, GoodRow W r → totC cs r = 0 → Maps.has D (klit r) = false
  yes : ∀ r, GoodRow W r → totC cs r ≠ 0 → ∃ v, (∀ z, D.atKey (klit r) z = .held (v, totC cs r)) ∧ RowB w b v r
  only : ∀ kl, Maps.has D kl = true → ∃ r, GoodRow W r ∧ kl = klit r
theorem TallyOf.below {w w' : World} {b : Nat} {D : DT} {W : Int} {cs : List C2} (h : TallyOf w b D W cs) (hb : Below b w w') : TallyOf w' b D W cs :=
  ⟨h.no, fun r hr hn => by obtain ⟨v, h1, h2⟩ := h.yes r hr hn; exact ⟨v, h1, h2.below hb⟩, h.only⟩
/-- what a look-up answers. -/
theorem TallyOf.at {w : World} {b : Nat} {D : DT} {W : Int} {cs : List C2} (h : TallyOf w b D W cs) {r : List V3} (hr : GoodRow W r) : ∃ a l c, D.atKey (klit r) (.held (.slice none 0 0, 0)) = .held (.slice a l c, totC cs r) := by
  by_cases hn : totC cs r = 0
  · exact ⟨none, 0, 0, by rw [hn]; exact Maps.atKey_of_not_has (h.no r hr hn) _⟩
  · obtain ⟨v, h1, g, ⟨a, c, rfl, _⟩, _⟩ := h.yes r hr hn
    exact ⟨a, _, c, h1 _⟩
theorem TallyOf.put {w : World} {b : Nat} {D : DT} {W : Int} {cs : List C2} (h : TallyOf w b D W cs) (hD : Maps.IsMap D) {r : List V3} (hr : GoodRow W r) {m : Int} {v : Value} (hv : RowB w b v r) (hs : totC cs r + m ≠ 0) : TallyOf w b (D.put (klit r) (.held (v, totC cs r + m))) W (cs ++ [⟨r, m⟩]) := by
  refine ⟨fun q hq hz => ?_, fun q hq hz => ?_, fun kl hk => ?_⟩
  · rw [totC_snoc] at hz
    by_cases e : r = q
    · subst e; rw [if_pos (cmpRow_irr _)] at hz; exact absurd hz hs
    · rw [if_neg (fun e' => e ((cmpRow_0 _ _).1 e')), Int.add_zero] at hz
      rw [Maps.has_put_other (fun e' => e (klit_inj hq hr e').symm)]
      exact h.no q hq hz
  · rw [totC_snoc] at hz ⊢
    by_cases e : r = q
    · subst e
      rw [if_pos (cmpRow_irr _)]
      exact ⟨v, fun z => Maps.atKey_put_same hD (klit_key _) _ _, hv⟩
    · rw [if_neg (fun e' => e ((cmpRow_0 _ _).1 e')), Int.add_zero] at hz ⊢
      obtain ⟨u, h1, h2⟩ := h.yes q hq hz
      exact ⟨u, fun z => by rw [Maps.atKey_put_other (fun e' => e (klit_inj hq hr e').symm)]; exact h1 z, h2⟩
  · by_cases e : kl = klit r
    · exact ⟨r, hr, e⟩
    · rw [Maps.has_put_other e] at hk
      exact h.only kl hk
/-- the tally cs in block b of w. -/
def TalIs (w : World) (b n : Nat) (W : Int) (cs : List C2) : Prop := ∃ D : DT, w.ownsMap Tryz.prog 9 Rc b n D ∧ TallyOf w b D W cs
/-- the tally cs in block b of w, its rows in blocks below B. -/
def TalAt (w : World) (b B n : Nat) (W : Int) (cs : List C2) : Prop := ∃ D : DT, w.ownsMap Tryz.prog 9 Rc b n D ∧ TallyOf w B D W cs
theorem TalAt.lt {w : World} {b B n : Nat} {W : Int} {cs : List C2} (h : TalAt w b B n W cs) : b < w.heap.size := by
  obtain ⟨D, h, _⟩ := h
  exact h.lt
theorem TalAt.keep {w w' : World} {b B n : Nat} {W : Int} {cs : List C2} (h : TalAt w b B n W cs) (hB : B ≤ w.heap.size) (hb : Below w.heap.size w w') : TalAt w' b B n W cs := by
  obtain ⟨D, h, hT⟩ := h
  exact ⟨D, h.kept (row := none) ⟨hb.os, hb.tape, hb.output, hb.size, fun k hk _ => hb.block k hk⟩ (by simp), hT.below (hb.mono hB)⟩
theorem TalIs.lt {w : World} {b n : Nat} {W : Int} {cs : List C2} (h : TalIs w b n W cs) : b < w.heap.size := by
  obtain ⟨D, h, _⟩ := h
  exact h.lt
theorem TalIs.keep {w w' : World} {b n : Nat} {W : Int} {cs : List C2} (h : TalIs w b n W cs) (hb : Below w.heap.size w w') : TalIs w' b n W cs := by
  have hl := h.lt
  obtain ⟨D, h, hT⟩ := h
  exact ⟨D, h.kept (row := none) ⟨hb.os, hb.tape, hb.output, hb.size, fun k hk _ => hb.block k hk⟩ (by simp), hT.below (hb.mono (Nat.le_of_lt hl))⟩
end Go.Proofs.YtaeibfipcenhaaaGreatDoor
