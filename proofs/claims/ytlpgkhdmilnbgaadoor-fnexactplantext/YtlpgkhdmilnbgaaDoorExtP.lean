/- Own text. The text of an expression. -/
import Derived.Test.YtlpgkhdmilnbgaaDoorVtP
import Derived.Test.YtlpgkhdmilnbgaaDoorExpOkI
namespace Go.Proofs.YtlpgkhdmilnbgaaDoor
open Go.RowKit
set_option linter.unusedVariables false
theorem wf64X (n : Int) (h : (Lit.int .i64 n).wf = true) : -9223372036854775808 ≤ n ∧ n ≤ 9223372036854775807 := by
  simp only [Lit.wf, IntKind.min, IntKind.max, IntKind.signed, IntKind.bits, Bool.and_eq_true, decide_eq_true_eq, if_true] at h
  omega
/-- the text of an expression of at most f levels. -/
def expT : Nat → E7 → List UInt8
  | 0, _ => []
  | f + 1, e => if e.k = 0 then 99 :: Lib.itoa e.n else if e.k = 1 then vt e.v.k e.v.n e.v.s
      else if e.k = 2 then (match e.ks with | [x, y] => 40 :: (expT f x ++ (32 :: (e.p.data.toList ++ (32 :: (expT f y ++ [41]))))) | _ => [])
      else if e.k = 3 then (match e.ks with | [x] => [110, 111, 116, 40] ++ (expT f x ++ [41]) | _ => [])
      else (match e.ks with | [x] => [105, 115, 110, 117, 108, 108, 40] ++ (expT f x ++ [41]) | _ => [])
theorem expT_0 {f : Nat} {e : E7} (h : e.k = 0) : expT (f + 1) e = 99 :: Lib.itoa e.n := by rw [expT, if_pos h]
theorem expT_1 {f : Nat} {e : E7} (h : e.k = 1) : expT (f + 1) e = vt e.v.k e.v.n e.v.s := by rw [expT, h]; rfl
theorem expT_2 {f : Nat} {e x y : E7} (h : e.k = 2) (hx : e.ks = [x, y]) : expT (f + 1) e = 40 :: (expT f x ++ (32 :: (e.p.data.toList ++ (32 :: (expT f y ++ [41]))))) := by rw [expT, h, hx]; rfl
theorem expT_3 {f : Nat} {e x : E7} (h : e.k = 3) (hx : e.ks = [x]) : expT (f + 1) e = [110, 111, 116, 40] ++ (expT f x ++ [41]) := by rw [expT, h, hx]; rfl
theorem expT_4 {f : Nat} {e x : E7} (h : e.k = 4) (hx : e.ks = [x]) : expT (f + 1) e = [105, 115, 110, 117, 108, 108, 40] ++ (expT f x ++ [41]) := by rw [expT, h, hx]; rfl
theorem kidX_of {w : World} {d : Nat} {u : Value} {es : List E7} {F : List Nat} (h : KidsIs w (d + 1) u es F) {x : E7} (hx : x ∈ es) : x.wf ∧ ∃ u' F', KidsIs w d u' x.ks F' := by
  obtain ⟨a, c, G, rfl, _, _, hG, _, h⟩ := h
  obtain ⟨b, o, rfl, _, _, hL⟩ := h (List.ne_nil_of_mem hx)
  obtain ⟨i, hi, rfl⟩ := List.mem_iff_getElem.1 hx
  have hi' : i < G.length := by omega
  obtain ⟨hw, _, u, _, hk⟩ := hL i es[i] G[i] (by simp) (by simp)
  exact ⟨hw, u, G[i], hk⟩
theorem succX {w : World} {d : Nat} {u : Value} {es : List E7} {F : List Nat} (h : KidsIs w d u es F) : ∃ d', d = d' + 1 := by
  cases d with
  | zero => exact h.elim
  | succ d => exact ⟨d, rfl⟩
theorem twoX {l : List E7} (h : l.length = 2) : ∃ a b, l = [a, b] := by
  match l, h with
  | [a, b], _ => exact ⟨a, b, rfl⟩
theorem oneX {l : List E7} (h : l.length = 1) : ∃ a, l = [a] := by
  match l, h with
  | [a], _ => exact ⟨a, rfl⟩
theorem opB_size {p : ByteArray} (h : opB p = true) : p.size ≤ 3 := by
  unfold opB hasB at h
  obtain ⟨q, hq, he⟩ := List.any_eq_true.1 h
  have he : q.toList = p.toList := by simpa using he
  rw [ByteArray.toList_eq, ByteArray.toList_eq] at he
  have hl := congrArg List.length he
  rw [Array.length_toList, Array.length_toList] at hl
  have hs : q.data.size ≤ 3 := by
    simp only [ops9, List.mem_cons, List.not_mem_nil, or_false] at hq
    rcases hq with rfl | rfl | rfl | rfl | rfl | rfl | rfl | rfl | rfl <;> decide
  show p.data.size ≤ 3
  omega
/-- what an expression that is right is. -/
theorem okE_cases {f : Nat} {e : E7} (h : okE (f + 1) e = true) : e.k = 0 ∨ e.k = 1 ∨ (e.k = 2 ∧ opB e.p = true ∧ ∃ x y, e.ks = [x, y] ∧ okE f x = true ∧ okE f y = true) ∨ (e.k = 3 ∧ ∃ x, e.ks = [x] ∧ okE f x = true) ∨ (e.k = 4 ∧ ∃ x, e.ks = [x] ∧ okE f x = true) := by
  rw [okE, Bool.and_eq_true] at h
  obtain ⟨hp, ha⟩ := h
  by_cases h0 : e.k = 0
  · exact .inl h0
  by_cases h1 : e.k = 1
  · exact .inr (.inl h1)
  by_cases h2 : e.k = 2
  · rw [partsB_2 h2] at hp
    simp only [Bool.and_eq_true, beq_iff_eq] at hp
    obtain ⟨x, y, hx⟩ := twoX hp.2
    rw [hx] at ha
    simp at ha
    exact .inr (.inr (.inl ⟨h2, hp.1.2, x, y, hx, ha.1, ha.2⟩))
  by_cases h3 : e.k = 3
  · rw [partsB_3 h3] at hp
    simp only [Bool.and_eq_true, beq_iff_eq] at hp
    obtain ⟨x, hx⟩ := oneX hp.2
    rw [hx] at ha
    simp at ha
    exact .inr (.inr (.inr (.inl ⟨h3, x, hx, ha⟩)))
  by_cases h4 : e.k = 4
  · rw [partsB_4 h4] at hp
    simp only [Bool.and_eq_true, beq_iff_eq] at hp
    obtain ⟨x, hx⟩ := oneX hp.2
    rw [hx] at ha
    simp at ha
    exact .inr (.inr (.inr (.inr ⟨h4, x, hx, ha⟩)))
  rw [partsB_x h0 h1 h2 h3 h4] at hp
  cases hp
theorem expT_len : ∀ (f : Nat) (e : E7) (w : World) (d : Nat) (u : Value) (F : List Nat), e.wf → KidsIs w d u e.ks F → okE f e = true → (expT f e).length + 10 ≤ 310 * 2 ^ f
  | 0, e, _, _, _, _, _, _, h => by cases h
  | f + 1, e, w, d, u, F, hw, hk, h => by
    obtain ⟨n0, n1⟩ := wf64X e.n hw.2.1
    obtain ⟨m0, m1⟩ := wf64X e.v.n hw.2.2.1.2.1
    have hpow : 2 ^ (f + 1) = 2 * 2 ^ f := by rw [Nat.pow_succ]; omega
    have hpos : 1 ≤ 2 ^ f := Nat.one_le_two_pow
    obtain ⟨d', rfl⟩ := succX hk
    rcases okE_cases h with h0 | h0 | ⟨h0, hp, x, y, hx, ox, oy⟩ | ⟨h0, x, hx, ox⟩ | ⟨h0, x, hx, ox⟩
    · rw [expT_0 h0, List.length_cons]
      have := Lib.itoa_length_le e.n n0 n1
      omega
    · rw [expT_1 h0]
      have := vt_len e.v.k e.v.n e.v.s m0 m1
      omega
    · obtain ⟨xw, ux, Fx, kx⟩ := kidX_of hk (x := x) (by rw [hx]; simp)
      obtain ⟨yw, uy, Fy, ky⟩ := kidX_of hk (x := y) (by rw [hx]; simp)
      have lx := expT_len f x w d' ux Fx xw kx ox
      have ly := expT_len f y w d' uy Fy yw ky oy
      have hps := opB_size hp
      have e1 : e.p.data.toList.length = e.p.size := Array.length_toList
      rw [expT_2 h0 hx]
      simp only [List.length_cons, List.length_append, List.length_nil]
      omega
    · obtain ⟨xw, ux, Fx, kx⟩ := kidX_of hk (x := x) (by rw [hx]; simp)
      have lx := expT_len f x w d' ux Fx xw kx ox
      rw [expT_3 h0 hx]
      simp only [List.length_cons, List.length_append, List.length_nil]
      omega
    · obtain ⟨xw, ux, Fx, kx⟩ := kidX_of hk (x := x) (by rw [hx]; simp)
      have lx := expT_len f x w d' ux Fx xw kx ox
      rw [expT_4 h0 hx]
      simp only [List.length_cons, List.length_append, List.length_nil]
      omega
theorem pow_le13 {f : Nat} (h : f ≤ 13) : 2 ^ f ≤ 8192 := by
  have := Nat.pow_le_pow_right (n := 2) (by decide) h
  simpa using this
/-- the text of an expression; the empty text where it is not right. -/
def expText (e : E7) : List UInt8 := if okE 13 e = true then expT 13 e else []
/-- an expression's operation and kids' slice in its box, and two kids in theirs. -/
def BopX (w : World) (B : Nat) (p : ByteArray) (v : Value) (b o : Nat) (x y : E7) (ux uy : Value) : Prop :=
  w.cell? ⟨B, 5, none⟩ = some (.string p) ∧ w.cell? ⟨B, 6, none⟩ = some v ∧ w.cell? ⟨b, o, none⟩ = some (.int .i64 x.k) ∧ w.cell? ⟨b, o + 1, none⟩ = some (.int .i64 x.n) ∧ w.cell? ⟨b, o + 2, none⟩ = some (.int .i64 x.v.k) ∧ w.cell? ⟨b, o + 3, none⟩ = some (.int .i64 x.v.n) ∧ w.cell? ⟨b, o + 4, none⟩ = some (.string x.v.s) ∧ w.cell? ⟨b, o + 5, none⟩ = some (.string x.p) ∧ w.cell? ⟨b, o + 6, none⟩ = some ux ∧ w.cell? ⟨b, o + 7, none⟩ = some (.int .i64 y.k) ∧ w.cell? ⟨b, o + 8, none⟩ = some (.int .i64 y.n) ∧ w.cell? ⟨b, o + 9, none⟩ = some (.int .i64 y.v.k) ∧ w.cell? ⟨b, o + 10, none⟩ = some (.int .i64 y.v.n) ∧ w.cell? ⟨b, o + 11, none⟩ = some (.string y.v.s) ∧ w.cell? ⟨b, o + 12, none⟩ = some (.string y.p) ∧ w.cell? ⟨b, o + 13, none⟩ = some uy
theorem BopX.keep {w w' : World} {B : Nat} {p : ByteArray} {v : Value} {b o : Nat} {x y : E7} {ux uy : Value} (h : BopX w B p v b o x y ux uy) (hb : Below w.heap.size w w') : BopX w' B p v b o x y ux uy := by
  obtain ⟨h0, h1, h2, h3, h4, h5, h6, h7, h8, h9, h10, h11, h12, h13, h14, h15⟩ := h
  exact ⟨cell_later hb h0, cell_later hb h1, cell_later hb h2, cell_later hb h3, cell_later hb h4, cell_later hb h5, cell_later hb h6, cell_later hb h7, cell_later hb h8, cell_later hb h9, cell_later hb h10, cell_later hb h11, cell_later hb h12, cell_later hb h13, cell_later hb h14, cell_later hb h15⟩
end Go.Proofs.YtlpgkhdmilnbgaaDoor
