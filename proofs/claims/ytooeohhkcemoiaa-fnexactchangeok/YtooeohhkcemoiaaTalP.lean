/- Own text. A tally of rows by their bytes, in plain words: no two right rows of one width share theirs; how often a row is there in a list (totC); what a map of rows says. -/
import Derived.Test.YtooeohhkcemoiaaPutR
import Derived.Test.YtooeohhkcemoiaaPutP
import Derived.Test.YtooeohhkcemoiaaOwnF
import Derived.Maps.RangeWalk
import Derived.Handy
namespace Go.Proofs.Ytooeohhkcemoiaa
open Go.RowKit
set_option linter.unusedVariables false
/-! ### bytes tell a row -/
theorem wf64 {n : Int} (h : (Lit.int .i64 n).wf = true) : -9223372036854775808 ≤ n ∧ n ≤ 9223372036854775807 := by
  have e1 : IntKind.i64.min = -9223372036854775808 := rfl
  have e2 : IntKind.i64.max = 9223372036854775807 := rfl
  simp [Lit.wf, e1, e2] at h
  omega
theorem byte_step {x y M : Int} (hM : 0 < M) (h1 : x / (M * 256) = y / (M * 256)) (h2 : x / M % 256 = y / M % 256) : x / M = y / M := by
  have a : x / M / 256 = x / (M * 256) := Int.ediv_ediv_of_nonneg (Int.le_of_lt hM)
  have b : y / M / 256 = y / (M * 256) := Int.ediv_ediv_of_nonneg (Int.le_of_lt hM)
  rw [← a, ← b] at h1
  omega
theorem numB_inj {n m : Int} (hn : (Lit.int .i64 n).wf = true) (hm : (Lit.int .i64 m).wf = true) (h : ∀ j, j < 8 → numB n j = numB m j) : n = m := by
  have e0 := h 0 (by omega); have e1 := h 1 (by omega); have e2 := h 2 (by omega); have e3 := h 3 (by omega)
  have e4 := h 4 (by omega); have e5 := h 5 (by omega); have e6 := h 6 (by omega); have e7 := h 7 (by omega)
  have bn := wf64 hn
  have bm := wf64 hm
  have wn : IntKind.u64.wrap n = n % 18446744073709551616 := by simp [IntKind.wrap, IntKind.bits, IntKind.signed]
  have wm : IntKind.u64.wrap m = m % 18446744073709551616 := by simp [IntKind.wrap, IntKind.bits, IntKind.signed]
  simp only [numB, wn, wm] at e0 e1 e2 e3 e4 e5 e6 e7
  have key : n % 18446744073709551616 = m % 18446744073709551616 := by
    have a1 := Int.emod_nonneg n (show (18446744073709551616 : Int) ≠ 0 by decide)
    have a2 := Int.emod_lt_of_pos n (show (0 : Int) < 18446744073709551616 by decide)
    have b1 := Int.emod_nonneg m (show (18446744073709551616 : Int) ≠ 0 by decide)
    have b2 := Int.emod_lt_of_pos m (show (0 : Int) < 18446744073709551616 by decide)
    generalize n % 18446744073709551616 = x at *
    generalize m % 18446744073709551616 = y at *
    have s7 : x / 72057594037927936 = y / 72057594037927936 := by
      have e : x / 72057594037927936 % 256 = y / 72057594037927936 % 256 := e0
      clear e0 e1 e2 e3 e4 e5 e6 e7
      omega
    have s6 := byte_step (M := 281474976710656) (by decide) s7 e1
    have s5 := byte_step (M := 1099511627776) (by decide) s6 e2
    have s4 := byte_step (M := 4294967296) (by decide) s5 e3
    have s3 := byte_step (M := 16777216) (by decide) s4 e4
    have s2 := byte_step (M := 65536) (by decide) s3 e5
    have s1 := byte_step (M := 256) (by decide) s2 e6
    have s0 := byte_step (M := 1) (by decide) s1 e7
    simpa using s0
  omega
/-- the bytes of a value. -/
def vU (x : V3) : List UInt8 := (putS x.k x.n x.s).data.toList
theorem nums_list (xs : List Int) : (strOfNums xs).data.toList = xs.map fun n => UInt8.ofNat n.toNat := rfl
theorem empty_of {s : ByteArray} (h : (s.toList == []) = true) : s = ⟨#[]⟩ := by
  rw [beq_iff_eq, ByteArray.toList_eq] at h
  exact ByteArray.ext (Array.toList_inj.1 h)
theorem vU_form {x : V3} (h : okW x = true) :
    (x = ⟨0, 0, ⟨#[]⟩⟩ ∧ vU x = [0]) ∨ (x = ⟨1, x.n, ⟨#[]⟩⟩ ∧ vU x = 1 :: (List.range 8).map (fun j => UInt8.ofNat (numB x.n j).toNat)) ∨
    (x = ⟨2, x.n, ⟨#[]⟩⟩ ∧ (x.n = 0 ∨ x.n = 1) ∧ vU x = [2, UInt8.ofNat x.n.toNat]) ∨ (x = ⟨3, 0, x.s⟩ ∧ x.s.size ≤ 100 ∧ vU x = 3 :: UInt8.ofNat x.s.size :: x.s.data.toList) := by
  obtain ⟨k, n, s⟩ := x
  unfold okW at h
  dsimp only at h ⊢
  by_cases h0 : k = 0
  · subst h0
    have hp := putS_0 n s h
    rw [okB_0] at h
    simp only [Bool.and_eq_true, beq_iff_eq] at h
    obtain ⟨rfl, hs⟩ := h
    obtain rfl := empty_of (s := s) (by rw [beq_iff_eq]; exact hs)
    exact .inl ⟨rfl, by unfold vU; dsimp only; rw [hp, nums_list]; rfl⟩
  by_cases h1 : k = 1
  · subst h1
    have hp := putS_1 n s h
    rw [okB_1] at h
    obtain rfl := empty_of h
    refine .inr (.inl ⟨rfl, ?_⟩)
    unfold vU; dsimp only; rw [hp, nums_list, numL, List.map_cons, List.map_map]; rfl
  by_cases h2 : k = 2
  · subst h2
    have hp := putS_2 n s h
    have hn := okB_2n n s h
    rw [okB_2] at h
    simp only [Bool.and_eq_true] at h
    obtain rfl := empty_of h.2
    exact .inr (.inr (.inl ⟨rfl, hn, by unfold vU; dsimp only; rw [hp, nums_list]; rfl⟩))
  by_cases h3 : k = 3
  · subst h3
    have hp := putS_3 n s h
    have hs := okB_3s n s h
    rw [okB_3] at h
    simp only [Bool.and_eq_true, beq_iff_eq] at h
    obtain ⟨rfl, _⟩ := h
    refine .inr (.inr (.inr ⟨rfl, hs, ?_⟩))
    unfold vU; dsimp only; rw [hp, ByteArray.data_append, Array.toList_append, nums_list]
    simp
  · rw [okB_x k n s h0 h1 h2 h3] at h; cases h
theorem ofNat_inj {a b : Nat} (ha : a < 256) (hb : b < 256) (h : UInt8.ofNat a = UInt8.ofNat b) : a = b := by
  have := congrArg UInt8.toNat h
  simp [UInt8.toNat_ofNat'] at this
  omega
theorem numB_bd (n : Int) (j : Nat) : 0 ≤ numB n j ∧ numB n j < 256 := by unfold numB; omega
theorem vU_inj {x y : V3} {l l' : List UInt8} (hx : okW x = true) (hy : okW y = true) (wx : x.wf) (wy : y.wf) (h : vU x ++ l = vU y ++ l') : x = y ∧ l = l' := by
  rcases vU_form hx with ⟨ex, fx⟩ | ⟨ex, fx⟩ | ⟨ex, nx, fx⟩ | ⟨ex, sx, fx⟩ <;> rcases vU_form hy with ⟨ey, fy⟩ | ⟨ey, fy⟩ | ⟨ey, ny, fy⟩ | ⟨ey, sy, fy⟩ <;> rw [fx, fy] at h
  all_goals first | (exfalso; simp at h; done) | skip
  · rw [ex, ey]; exact ⟨rfl, by simpa using h⟩
  · have hl : ((List.range 8).map (fun j => UInt8.ofNat (numB x.n j).toNat)).length = ((List.range 8).map (fun j => UInt8.ofNat (numB y.n j).toNat)).length := by simp
    rw [List.cons_append, List.cons_append, List.cons.injEq] at h
    obtain ⟨h1, h2⟩ := List.append_inj h.2 hl
    have hn : x.n = y.n := numB_inj wx.2.1 wy.2.1 fun j hj => by
      have e := congrArg (fun l => l[j]?) h1
      simp only [List.getElem?_map, List.getElem?_range hj, Option.map_some, Option.some.injEq] at e
      have b1 := numB_bd x.n j
      have b2 := numB_bd y.n j
      have := ofNat_inj (by omega) (by omega) e
      omega
    rw [ex, ey, hn]; exact ⟨rfl, h2⟩
  · simp only [List.cons_append, List.nil_append, List.cons.injEq, true_and] at h
    have hn := ofNat_inj (by omega) (by omega) h.1
    have : x.n = y.n := by omega
    rw [ex, ey, this]; exact ⟨rfl, h.2⟩
  · simp only [List.cons_append, List.cons.injEq, true_and] at h
    have hn := ofNat_inj (by omega) (by omega) h.1
    obtain ⟨h1, h2⟩ := List.append_inj h.2 (by simpa using hn)
    have : x.s = y.s := ByteArray.ext (Array.toList_inj.1 h1)
    rw [ex, ey, this]; exact ⟨rfl, h2⟩
theorem rowU_cons (x : V3) (r : List V3) : rowU (x :: r) = vU x ++ rowU r := by unfold rowU vU; rw [List.flatMap_cons]
theorem rowU_inj : ∀ {r q : List V3}, r.length = q.length → r.all okW = true → q.all okW = true → VsWf r → VsWf q → rowU r = rowU q → r = q
  | [], [], _, _, _, _, _, _ => rfl
  | x :: r, y :: q, hl, hr, hq, wr, wq, h => by
    rw [rowU_cons, rowU_cons] at h
    rw [List.all_cons, Bool.and_eq_true] at hr hq
    obtain ⟨rfl, h2⟩ := vU_inj hr.1 hq.1 (wr x (by simp)) (wq y (by simp)) h
    rw [rowU_inj (by simpa using hl) hr.2 hq.2 (fun z hz => wr z (by simp [hz])) (fun z hz => wq z (by simp [hz])) h2]
/-- a right row of width W whose numbers and texts are such as there are. -/
def GoodRow (W : Int) (r : List V3) : Prop := okRow r W = true ∧ VsWf r
theorem GoodRow.inj {W : Int} {r q : List V3} (hr : GoodRow W r) (hq : GoodRow W q) (h : rowU r = rowU q) : r = q := by
  have a := hr.1; have b := hq.1
  simp only [okRow, Bool.and_eq_true, decide_eq_true_eq] at a b
  exact rowU_inj (by omega) a.2 b.2 hr.2 hq.2 h
/-! ### how often a row is there -/
def totC : List C2 → List V3 → Int
  | [], _ => 0
  | c :: cs, r => (if cmpRow c.r r = 0 then c.n else 0) + totC cs r
theorem totC_app (cs ds : List C2) (r : List V3) : totC (cs ++ ds) r = totC cs r + totC ds r := by
  induction cs with
  | nil => simp [totC]
  | cons c cs ih => rw [List.cons_append, totC, totC, ih]; omega
theorem totC_snoc (cs : List C2) (c : C2) (r : List V3) : totC (cs ++ [c]) r = totC cs r + if cmpRow c.r r = 0 then c.n else 0 := by
  rw [totC_app]; simp [totC]
theorem totC_none {cs : List C2} {r : List V3} (h : ∀ c ∈ cs, c.r ≠ r) : totC cs r = 0 := by
  induction cs with
  | nil => rfl
  | cons c cs ih =>
    rw [totC, if_neg (fun e => h c (by simp) ((cmpRow_0 _ _).1 e)), ih fun x hx => h x (by simp [hx])]; rfl
theorem totC_asc : ∀ {cs : List C2} (r : List V3), Asc cs → totC cs r = cntC cs r
  | [], _, _ => rfl
  | c :: cs, r, h => by
    rw [totC, cntC_cons]
    by_cases e : cmpRow c.r r = 0
    · have : totC cs r = 0 := totC_none fun x hx => by
        have := (cmpRow_0 _ _).1 e
        rw [← this]; exact h.ne x hx
      rw [if_pos e, if_pos e, this]; omega
    · rw [if_neg e, if_neg e, totC_asc r (List.pairwise_cons.1 h).2]; omega
theorem totC_perm {cs ds : List C2} (h : cs.Perm ds) (r : List V3) : totC cs r = totC ds r := by
  induction h with
  | nil => rfl
  | cons x _ ih => rw [totC, totC, ih]
  | swap x y l => simp only [totC]; omega
  | trans _ _ ih1 ih2 => rw [ih1, ih2]
theorem totC_bound {cs : List C2} {M : Int} (h : ∀ c ∈ cs, -M ≤ c.n ∧ c.n ≤ M) (hM : 0 ≤ M) (r : List V3) : -(M * cs.length) ≤ totC cs r ∧ totC cs r ≤ M * cs.length := by
  induction cs with
  | nil => simp [totC]
  | cons c cs ih =>
    have h1 := h c (by simp)
    have h2 := ih fun x hx => h x (by simp [hx])
    rw [totC, List.length_cons]
    have e : M * ((cs.length + 1 : Nat) : Int) = M * cs.length + M := by rw [Int.natCast_add, Int.mul_add]; simp
    rw [e]
    generalize M * (cs.length : Int) = Q at *
    split <;> omega
end Go.Proofs.Ytooeohhkcemoiaa
