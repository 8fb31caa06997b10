/- Own text. The contract of spec's ExpText. -/
import Derived.Test.YtlpgkhdmilnbgaaDoorExtP
import Derived.Test.YtlpgkhdmilnbgaaDoorVtS
import Derived.Test.YtlpgkhdmilnbgaaDoorVtI
import Derived.Test.YtlpgkhdmilnbgaaDoorExpOkS
import Derived.Test.YtlpgkhdmilnbgaaDoorTake
import Derived.Handy
import Derived.Deep.RegionHeld3
namespace Go.Proofs.YtlpgkhdmilnbgaaDoor
open Go.RowKit
set_option linter.unusedVariables false
/-- the text of an expression of at most f levels. -/
def TxS (f : Nat) : Prop := ∀ (e : E7) (u : Value) (F : List Nat) (d : Nat) (w : World), e.wf → KidsIs w d u e.ks F → okE f e = true → f ≤ 13 → Env w →
    Calls Tryd.prog 34 #[(.agg #[.int .i64 e.k, .int .i64 e.n, .int .i64 e.v.k, .int .i64 e.v.n, .string e.v.s, .string e.p, u])] w fun x w' => x = .returned (.string (bs (expT f e))) ∧ Below w.heap.size w w'
set_option maxHeartbeats 2000000 in
set_option maxRecDepth 100000 in
theorem txS_0 {f : Nat} {e : E7} {u : Value} {F : List Nat} {d : Nat} {w : World} (hw : e.wf) (hk : KidsIs w d u e.ks F) (h0 : e.k = 0) (hE : Env w) :
    Calls Tryd.prog 34 #[(.agg #[.int .i64 e.k, .int .i64 e.n, .int .i64 e.v.k, .int .i64 e.v.n, .string e.v.s, .string e.p, u])] w fun x w' => x = .returned (.string (bs (expT (f + 1) e))) ∧ Below w.heap.size w w' := by
  rw [expT_0 h0]
  obtain ⟨a, c, rfl, _, hc⟩ := hk.shape
  obtain ⟨n0, n1⟩ := wf64X e.n hw.2.1
  have hil := Lib.itoa_length_le e.n n0 n1
  have hD : ∀ w2, Below w.heap.size w w2 → Calls Tryd.prog 24 #[.int .i64 e.n] w2 fun x w' => x = .returned (.string (bs (Lib.itoa e.n))) ∧ Below w2.heap.size w2 w' := fun w2 hb => (specDec_any e.n w2 n0 n1).mono fun x w' ⟨he, hw'⟩ => ⟨he, hw' ▸ Below.refl _ _⟩
  obtain ⟨t1, H1⟩ : ∃ t1, Hid (bs (Lib.itoa e.n) = t1) := ⟨bs (Lib.itoa e.n), show bs (Lib.itoa e.n) = bs (Lib.itoa e.n) from rfl⟩
  rw [H1.out] at hD
  have hs1 : t1.size ≤ 40 := by rw [← H1.out, bs_size]; omega
  have HF : Hid ((⟨#[99]⟩ : ByteArray) ++ t1 = bs (99 :: Lib.itoa e.n)) := by
    show _ = _
    rw [← H1.out, show (⟨#[99]⟩ : ByteArray) = bs [99] from rfl, bs_app]
    rfl
  rw [h0]
  clear hk hw hE n0 n1 hil H1
  go_enter Tryd.func34, Tryd.ntmps34
  go_wp2_with fail
  refine Calls.mono (hD _ ?hb) ?_
  case hb => repeat (first | (with_reducible exact Below.refl _ _) | (with_reducible refine Below.drew ?_) | (with_reducible refine Below.alloc ?_ ?hh _; case hh => first | (simp; done) | (simp; omega) | omega) | (with_reducible refine Below.setCell ?_ ?hh _; case hh => first | (simp; done) | (simp; omega) | omega) | refine bstep (by assumption) (by first | (simp; done) | (simp; omega) | omega) ?_)
  rintro x w2 ⟨rfl, hb2⟩
  have bel2 : Below w.heap.size w w2 := by repeat (first | (with_reducible exact Below.refl _ _) | (with_reducible refine Below.drew ?_) | (with_reducible refine Below.alloc ?_ ?hh _; case hh => first | (simp; done) | (simp; omega) | omega) | (with_reducible refine Below.setCell ?_ ?hh _; case hh => first | (simp; done) | (simp; omega) | omega) | refine bstep (by assumption) (by first | (simp; done) | (simp; omega) | omega) ?_)
  clear hD hb2
  go_wp2_with fail
  go_returns
  exact ⟨by rw [← HF.out]; rfl, bel2⟩
set_option maxHeartbeats 2000000 in
set_option maxRecDepth 100000 in
theorem txS_1 {f : Nat} {e : E7} {u : Value} {F : List Nat} {d : Nat} {w : World} (hw : e.wf) (hk : KidsIs w d u e.ks F) (h0 : e.k = 1) (hE : Env w) :
    Calls Tryd.prog 34 #[(.agg #[.int .i64 e.k, .int .i64 e.n, .int .i64 e.v.k, .int .i64 e.v.n, .string e.v.s, .string e.p, u])] w fun x w' => x = .returned (.string (bs (expT (f + 1) e))) ∧ Below w.heap.size w w' := by
  rw [expT_1 h0]
  obtain ⟨a, c, rfl, _, hc⟩ := hk.shape
  obtain ⟨m0, m1⟩ := wf64X e.v.n hw.2.2.1.2.1
  have hvs := hw.2.2.1.2.2
  have hV : ∀ w2, Below w.heap.size w w2 → Calls Tryd.prog 40 #[(.agg #[.int .i64 e.v.k, .int .i64 e.v.n, .string e.v.s])] w2 fun x w' => x = .returned (.string (bs (vt e.v.k e.v.n e.v.s))) ∧ Below w2.heap.size w2 w' := fun w2 hb => specVt_any e.v.k e.v.n e.v.s w2 hvs m0 m1
  rw [h0]
  clear hk hw hE m0 m1 hvs
  go_enter Tryd.func34, Tryd.ntmps34
  go_wp2_with fail
  refine Calls.mono (hV _ ?hb) ?_
  case hb => repeat (first | (with_reducible exact Below.refl _ _) | (with_reducible refine Below.drew ?_) | (with_reducible refine Below.alloc ?_ ?hh _; case hh => first | (simp; done) | (simp; omega) | omega) | (with_reducible refine Below.setCell ?_ ?hh _; case hh => first | (simp; done) | (simp; omega) | omega) | refine bstep (by assumption) (by first | (simp; done) | (simp; omega) | omega) ?_)
  rintro x w2 ⟨rfl, hb2⟩
  have bel2 : Below w.heap.size w w2 := by repeat (first | (with_reducible exact Below.refl _ _) | (with_reducible refine Below.drew ?_) | (with_reducible refine Below.alloc ?_ ?hh _; case hh => first | (simp; done) | (simp; omega) | omega) | (with_reducible refine Below.setCell ?_ ?hh _; case hh => first | (simp; done) | (simp; omega) | omega) | refine bstep (by assumption) (by first | (simp; done) | (simp; omega) | omega) ?_)
  clear hV hb2
  go_wp2_with fail
  go_returns
  exact ⟨rfl, bel2⟩
set_option maxHeartbeats 2000000 in
set_option maxRecDepth 100000 in
theorem txS_3 {f : Nat} (hI : TxS f) {e x : E7} {u : Value} {F : List Nat} {d : Nat} {w : World} (hw : e.wf) (hk : KidsIs w d u e.ks F) (h0 : e.k = 3) (hx : e.ks = [x]) (ox : okE f x = true) (hf : f ≤ 13) (hE : Env w) :
    Calls Tryd.prog 34 #[(.agg #[.int .i64 e.k, .int .i64 e.n, .int .i64 e.v.k, .int .i64 e.v.n, .string e.v.s, .string e.p, u])] w fun x w' => x = .returned (.string (bs (expT (f + 1) e))) ∧ Below w.heap.size w w' := by
  obtain ⟨r, HR⟩ : ∃ r, Hid (bs (expT (f + 1) e) = r) := ⟨_, rfl⟩
  rw [HR.out]
  have HR2 : Hid (bs ([110, 111, 116, 40] ++ (expT f x ++ [41])) = r) := by show _ = _; rw [← HR.out, expT_3 h0 hx]
  have h1l : 0 < e.ks.length := by rw [hx]; exact Nat.one_pos
  obtain ⟨d, rfl⟩ := succX hk
  obtain ⟨a, c, b, o, G, rfl, hl, hc, hG, _, ha⟩ := hk.pick
  obtain ⟨rfl, hblt, _, hL⟩ := ha 0 h1l
  obtain ⟨x', g, u, hx', hg, hxw, ⟨c0, c1, c2, c3, c4, c5⟩, c6, hK, hbr⟩ := hL.at hG hblt (Below.refl _ _) (k := 0) h1l
  obtain rfl : x = x' := by rw [hx] at hx'; simpa using hx'
  obtain ⟨ax, cx, rfl, _, _⟩ := hK.shape
  unfold maxLen at hc
  have hlen : e.ks.length = 1 := by rw [hx]; rfl
  have hxl := expT_len f x w d _ g hxw hK ox
  have hp2 := pow_le13 hf
  have hX : ∀ w2, Below w.heap.size w w2 → Calls Tryd.prog 34 #[(.agg #[.int .i64 x.k, .int .i64 x.n, .int .i64 x.v.k, .int .i64 x.v.n, .string x.v.s, .string x.p, (.slice ax x.ks.length cx)])] w2 fun q w' => q = .returned (.string (bs (expT f x))) ∧ Below w2.heap.size w2 w' := fun w2 hb => hI x _ g d w2 hxw (hK.below hb) ox hf (hE.below hb)
  obtain ⟨t1, H1⟩ : ∃ t1, Hid (bs (expT f x) = t1) := ⟨bs (expT f x), show bs (expT f x) = bs (expT f x) from rfl⟩
  rw [H1.out] at hX
  have hs1 : t1.size ≤ 3000000 := by rw [← H1.out, bs_size]; omega
  have hs2 : ((⟨#[110, 111, 116, 40]⟩ : ByteArray) ++ t1).size ≤ 3000010 := by rw [ByteArray.size_append]; have : (⟨#[110, 111, 116, 40]⟩ : ByteArray).size = 4 := rfl; omega
  have HF : Hid (((⟨#[110, 111, 116, 40]⟩ : ByteArray) ++ t1) ++ (⟨#[41]⟩ : ByteArray) = r) := by
    show _ = _
    rw [← HR2.out, ← H1.out, show (⟨#[110, 111, 116, 40]⟩ : ByteArray) = bs [110, 111, 116, 40] from rfl, show (⟨#[41]⟩ : ByteArray) = bs [41] from rfl, bs_app, bs_app]
    simp
  rw [h0, hlen]
  simp only [Nat.zero_mul, Nat.add_zero] at c0 c1 c2 c3 c4 c5 c6
  clear hk hw ha hL hx hx' h0 hlen hl hG hE hI hK hxw ox hxl H1 h1l HR HR2
  go_enter Tryd.func34, Tryd.ntmps34
  go_wp2_with fail
  refine Calls.mono (hX _ ?hb) ?_
  case hb => repeat (first | (with_reducible exact Below.refl _ _) | (with_reducible refine Below.drew ?_) | (with_reducible refine Below.alloc ?_ ?hh _; case hh => first | (simp; done) | (simp; omega) | omega) | (with_reducible refine Below.setCell ?_ ?hh _; case hh => first | (simp; done) | (simp; omega) | omega) | refine bstep (by assumption) (by first | (simp; done) | (simp; omega) | omega) ?_)
  rintro q w2 ⟨rfl, hb2⟩
  have bel2 : Below w.heap.size w w2 := by repeat (first | (with_reducible exact Below.refl _ _) | (with_reducible refine Below.drew ?_) | (with_reducible refine Below.alloc ?_ ?hh _; case hh => first | (simp; done) | (simp; omega) | omega) | (with_reducible refine Below.setCell ?_ ?hh _; case hh => first | (simp; done) | (simp; omega) | omega) | refine bstep (by assumption) (by first | (simp; done) | (simp; omega) | omega) ?_)
  clear hX hb2
  go_wp2_with fail
  go_returns
  exact ⟨by rw [← HF.out]; rfl, bel2⟩
set_option maxHeartbeats 2000000 in
set_option maxRecDepth 100000 in
theorem txS_4 {f : Nat} (hI : TxS f) {e x : E7} {u : Value} {F : List Nat} {d : Nat} {w : World} (hw : e.wf) (hk : KidsIs w d u e.ks F) (h0 : e.k = 4) (hx : e.ks = [x]) (ox : okE f x = true) (hf : f ≤ 13) (hE : Env w) :
    Calls Tryd.prog 34 #[(.agg #[.int .i64 e.k, .int .i64 e.n, .int .i64 e.v.k, .int .i64 e.v.n, .string e.v.s, .string e.p, u])] w fun x w' => x = .returned (.string (bs (expT (f + 1) e))) ∧ Below w.heap.size w w' := by
  obtain ⟨r, HR⟩ : ∃ r, Hid (bs (expT (f + 1) e) = r) := ⟨_, rfl⟩
  rw [HR.out]
  have HR2 : Hid (bs ([105, 115, 110, 117, 108, 108, 40] ++ (expT f x ++ [41])) = r) := by show _ = _; rw [← HR.out, expT_4 h0 hx]
  have h1l : 0 < e.ks.length := by rw [hx]; exact Nat.one_pos
  obtain ⟨d, rfl⟩ := succX hk
  obtain ⟨a, c, b, o, G, rfl, hl, hc, hG, _, ha⟩ := hk.pick
  obtain ⟨rfl, hblt, _, hL⟩ := ha 0 h1l
  obtain ⟨x', g, u, hx', hg, hxw, ⟨c0, c1, c2, c3, c4, c5⟩, c6, hK, hbr⟩ := hL.at hG hblt (Below.refl _ _) (k := 0) h1l
  obtain rfl : x = x' := by rw [hx] at hx'; simpa using hx'
  obtain ⟨ax, cx, rfl, _, _⟩ := hK.shape
  unfold maxLen at hc
  have hlen : e.ks.length = 1 := by rw [hx]; rfl
  have hxl := expT_len f x w d _ g hxw hK ox
  have hp2 := pow_le13 hf
  have hX : ∀ w2, Below w.heap.size w w2 → Calls Tryd.prog 34 #[(.agg #[.int .i64 x.k, .int .i64 x.n, .int .i64 x.v.k, .int .i64 x.v.n, .string x.v.s, .string x.p, (.slice ax x.ks.length cx)])] w2 fun q w' => q = .returned (.string (bs (expT f x))) ∧ Below w2.heap.size w2 w' := fun w2 hb => hI x _ g d w2 hxw (hK.below hb) ox hf (hE.below hb)
  obtain ⟨t1, H1⟩ : ∃ t1, Hid (bs (expT f x) = t1) := ⟨bs (expT f x), show bs (expT f x) = bs (expT f x) from rfl⟩
  rw [H1.out] at hX
  have hs1 : t1.size ≤ 3000000 := by rw [← H1.out, bs_size]; omega
  have hs2 : ((⟨#[105, 115, 110, 117, 108, 108, 40]⟩ : ByteArray) ++ t1).size ≤ 3000010 := by rw [ByteArray.size_append]; have : (⟨#[105, 115, 110, 117, 108, 108, 40]⟩ : ByteArray).size = 7 := rfl; omega
  have HF : Hid (((⟨#[105, 115, 110, 117, 108, 108, 40]⟩ : ByteArray) ++ t1) ++ (⟨#[41]⟩ : ByteArray) = r) := by
    show _ = _
    rw [← HR2.out, ← H1.out, show (⟨#[105, 115, 110, 117, 108, 108, 40]⟩ : ByteArray) = bs [105, 115, 110, 117, 108, 108, 40] from rfl, show (⟨#[41]⟩ : ByteArray) = bs [41] from rfl, bs_app, bs_app]
    simp
  rw [h0, hlen]
  simp only [Nat.zero_mul, Nat.add_zero] at c0 c1 c2 c3 c4 c5 c6
  clear hk hw ha hL hx hx' h0 hlen hl hG hE hI hK hxw ox hxl H1 h1l HR HR2
  go_enter Tryd.func34, Tryd.ntmps34
  go_wp2_with fail
  refine Calls.mono (hX _ ?hb) ?_
  case hb => repeat (first | (with_reducible exact Below.refl _ _) | (with_reducible refine Below.drew ?_) | (with_reducible refine Below.alloc ?_ ?hh _; case hh => first | (simp; done) | (simp; omega) | omega) | (with_reducible refine Below.setCell ?_ ?hh _; case hh => first | (simp; done) | (simp; omega) | omega) | refine bstep (by assumption) (by first | (simp; done) | (simp; omega) | omega) ?_)
  rintro q w2 ⟨rfl, hb2⟩
  have bel2 : Below w.heap.size w w2 := by repeat (first | (with_reducible exact Below.refl _ _) | (with_reducible refine Below.drew ?_) | (with_reducible refine Below.alloc ?_ ?hh _; case hh => first | (simp; done) | (simp; omega) | omega) | (with_reducible refine Below.setCell ?_ ?hh _; case hh => first | (simp; done) | (simp; omega) | omega) | refine bstep (by assumption) (by first | (simp; done) | (simp; omega) | omega) ?_)
  clear hX hb2
  go_wp2_with fail
  go_returns
  exact ⟨by rw [← HF.out]; rfl, bel2⟩
set_option maxHeartbeats 8000000 in
set_option maxRecDepth 100000 in
theorem txS_2 {f : Nat} (hI : TxS f) {e x y : E7} {u : Value} {F : List Nat} {d : Nat} {w : World} (hw : e.wf) (hk : KidsIs w d u e.ks F) (h0 : e.k = 2) (hp : opB e.p = true) (hx : e.ks = [x, y]) (ox : okE f x = true) (oy : okE f y = true) (hf : f ≤ 13) (hE : Env w) :
    Calls Tryd.prog 34 #[(.agg #[.int .i64 e.k, .int .i64 e.n, .int .i64 e.v.k, .int .i64 e.v.n, .string e.v.s, .string e.p, u])] w fun x w' => x = .returned (.string (bs (expT (f + 1) e))) ∧ Below w.heap.size w w' := by
  rw [expT_2 h0 hx]
  have h1l : 0 < e.ks.length ∧ 1 < e.ks.length := by rw [hx]; exact ⟨Nat.two_pos, Nat.one_lt_two⟩
  obtain ⟨d, rfl⟩ := succX hk
  obtain ⟨a, c, b, o, G, rfl, hl, hc, hG, _, ha⟩ := hk.pick
  obtain ⟨rfl, hblt, _, hL⟩ := ha 0 h1l.1
  obtain ⟨x', g, u, hx', hg, hxw, ⟨c0, c1, c2, c3, c4, c5⟩, c6, hK, hbr⟩ := hL.at hG hblt (Below.refl _ _) (k := 0) h1l.1
  obtain rfl : x = x' := by rw [hx] at hx'; simpa using hx'
  obtain ⟨ax, cx, rfl, _, _⟩ := hK.shape
  obtain ⟨y', g', u', hy', hg', hyw, ⟨d0, d1, d2, d3, d4, d5⟩, d6, hK', _⟩ := hL.at hG hblt (Below.refl _ _) (k := 1) h1l.2
  obtain rfl : y = y' := by rw [hx] at hy'; simpa using hy'
  obtain ⟨ay, cy, rfl, _, _⟩ := hK'.shape
  unfold maxLen at hc
  have hlen : e.ks.length = 2 := by rw [hx]; rfl
  have hxl := expT_len f x w d _ g hxw hK ox
  have hyl := expT_len f y w d _ g' hyw hK' oy
  have hp2 := pow_le13 hf
  have hps := opB_size hp
  have hX : ∀ w2, Below w.heap.size w w2 → Calls Tryd.prog 34 #[(.agg #[.int .i64 x.k, .int .i64 x.n, .int .i64 x.v.k, .int .i64 x.v.n, .string x.v.s, .string x.p, (.slice ax x.ks.length cx)])] w2 fun q w' => q = .returned (.string (bs (expT f x))) ∧ Below w2.heap.size w2 w' := fun w2 hb => hI x _ g d w2 hxw (hK.below hb) ox hf (hE.below hb)
  have hY : ∀ w2, Below w.heap.size w w2 → Calls Tryd.prog 34 #[(.agg #[.int .i64 y.k, .int .i64 y.n, .int .i64 y.v.k, .int .i64 y.v.n, .string y.v.s, .string y.p, (.slice ay y.ks.length cy)])] w2 fun q w' => q = .returned (.string (bs (expT f y))) ∧ Below w2.heap.size w2 w' := fun w2 hb => hI y _ g' d w2 hyw (hK'.below hb) oy hf (hE.below hb)
  obtain ⟨t1, H1⟩ : ∃ t1, Hid (bs (expT f x) = t1) := ⟨bs (expT f x), show bs (expT f x) = bs (expT f x) from rfl⟩
  obtain ⟨t2, H2⟩ : ∃ t2, Hid (bs (expT f y) = t2) := ⟨bs (expT f y), show bs (expT f y) = bs (expT f y) from rfl⟩
  rw [H1.out] at hX
  rw [H2.out] at hY
  have hs1 : t1.size ≤ 3000000 := by rw [← H1.out, bs_size]; omega
  have hs2 : t2.size ≤ 3000000 := by rw [← H2.out, bs_size]; omega
  have q1 : ((⟨#[40]⟩ : ByteArray) ++ t1).size ≤ 3000001 := by rw [ByteArray.size_append]; have : (⟨#[40]⟩ : ByteArray).size = 1 := rfl; omega
  have q2 : ((⟨#[40]⟩ : ByteArray) ++ t1 ++ (⟨#[32]⟩ : ByteArray)).size ≤ 3000002 := by rw [ByteArray.size_append]; have : (⟨#[32]⟩ : ByteArray).size = 1 := rfl; omega
  have q3 : ((⟨#[40]⟩ : ByteArray) ++ t1 ++ (⟨#[32]⟩ : ByteArray) ++ e.p).size ≤ 3000005 := by rw [ByteArray.size_append]; omega
  have q4 : ((⟨#[40]⟩ : ByteArray) ++ t1 ++ (⟨#[32]⟩ : ByteArray) ++ e.p ++ (⟨#[32]⟩ : ByteArray)).size ≤ 3000006 := by rw [ByteArray.size_append]; have : (⟨#[32]⟩ : ByteArray).size = 1 := rfl; omega
  have q5 : ((⟨#[40]⟩ : ByteArray) ++ t1 ++ (⟨#[32]⟩ : ByteArray) ++ e.p ++ (⟨#[32]⟩ : ByteArray) ++ t2).size ≤ 6000006 := by rw [ByteArray.size_append]; omega
  have HF : Hid ((⟨#[40]⟩ : ByteArray) ++ t1 ++ (⟨#[32]⟩ : ByteArray) ++ e.p ++ (⟨#[32]⟩ : ByteArray) ++ t2 ++ (⟨#[41]⟩ : ByteArray) = bs (40 :: (expT f x ++ (32 :: (e.p.data.toList ++ (32 :: (expT f y ++ [41]))))))) := by
    show _ = _
    rw [← H1.out, ← H2.out, show (⟨#[40]⟩ : ByteArray) = bs [40] from rfl, show (⟨#[32]⟩ : ByteArray) = bs [32] from rfl, show (⟨#[41]⟩ : ByteArray) = bs [41] from rfl]
    conv => lhs; rw [← bs_of e.p]
    rw [bs_app, bs_app, bs_app, bs_app, bs_app, bs_app]
    simp
  rw [h0, hlen]
  simp only [Nat.zero_mul, Nat.one_mul, Nat.add_zero, Nat.add_assoc, Nat.reduceAdd] at c0 c1 c2 c3 c4 c5 c6 d0 d1 d2 d3 d4 d5 d6
  have hB : BopX (w.alloc (.cells #[.int .i64 2, .int .i64 e.n, .int .i64 e.v.k, .int .i64 e.v.n, .string e.v.s, .string e.p, .slice (some ⟨b, o, none⟩) 2 c] 35)) w.heap.size e.p (.slice (some ⟨b, o, none⟩) 2 c) b o x y (.slice ax x.ks.length cx) (.slice ay y.ks.length cy) := by
    refine ⟨by go_simp, by go_simp, ?_, ?_, ?_, ?_, ?_, ?_, ?_, ?_, ?_, ?_, ?_, ?_, ?_, ?_⟩ <;> go_simp
  clear hk hw ha hL hx hx' hy' h0 hlen hl hG hE hI hK hK' hxw hyw ox oy hxl hyl H1 H2 h1l hg hg' c0 c1 c2 c3 c4 c5 c6 d0 d1 d2 d3 d4 d5 d6
  go_enter Tryd.func34, Tryd.ntmps34
  go_wp2_with fail
  refine wp_region_held_drew (S := (fun w' => BopX w' w.heap.size e.p (.slice (some ⟨b, o, none⟩) 2 c) b o x y (.slice ax x.ks.length cx) (.slice ay y.ks.length cy))) (by kernel_rfl) ?_ (fun hHeld => ?_)
  · exact hB.keep (by repeat (first | (with_reducible exact Below.refl _ _) | (with_reducible refine Below.drew ?_) | (with_reducible refine Below.alloc ?_ ?hh _; case hh => first | (simp; done) | (simp; omega) | omega) | (with_reducible refine Below.setCell ?_ ?hh _; case hh => first | (simp; done) | (simp; omega) | omega) | refine bstep (by assumption) (by first | (simp; done) | (simp; omega) | omega) ?_))
  refine takeYes (i := 0) (d := 18) (v := ?_) rfl rfl (by kernel_rfl) (by kernel_rfl) (by kernel_rfl) (fun _ _ _ h => h) (by rfl) (by assumption) ?_ ?_
  rotate_left
  · intro w' hSw; obtain ⟨x0, x1, x2, x3, x4, x5, x6, x7, x8, x9, x10, x11, x12, x13, x14, x15⟩ := hSw; go_simp; (try rw [if_neg (by omega)]); try exact rfl
  try simp only [List.setIfInBounds_toArray, List.set_cons_zero, List.set_cons_succ]
  refine takeYes (i := 1) (d := 19) (v := ?_) rfl rfl (by kernel_rfl) (by kernel_rfl) (by kernel_rfl) (fun _ _ _ h => h) (by rfl) (by assumption) ?_ ?_
  rotate_left
  · intro w' hSw; obtain ⟨x0, x1, x2, x3, x4, x5, x6, x7, x8, x9, x10, x11, x12, x13, x14, x15⟩ := hSw; go_simp; (try rw [if_neg (by omega)]); try exact rfl
  try simp only [List.setIfInBounds_toArray, List.set_cons_zero, List.set_cons_succ]
  refine takeYes (i := 2) (d := 20) (v := ?_) rfl rfl (by kernel_rfl) (by kernel_rfl) (by kernel_rfl) (fun _ _ _ h => h) (by rfl) (by assumption) ?_ ?_
  rotate_left
  · intro w' hSw; obtain ⟨x0, x1, x2, x3, x4, x5, x6, x7, x8, x9, x10, x11, x12, x13, x14, x15⟩ := hSw; go_simp; (try rw [if_neg (by omega)]); try exact rfl
  try simp only [List.setIfInBounds_toArray, List.set_cons_zero, List.set_cons_succ]
  refine takeYes (i := 3) (d := 21) (v := ?_) rfl rfl (by kernel_rfl) (by kernel_rfl) (by kernel_rfl) (fun _ _ _ h => h) (by rfl) (by assumption) ?_ ?_
  rotate_left
  · intro w' hSw; obtain ⟨x0, x1, x2, x3, x4, x5, x6, x7, x8, x9, x10, x11, x12, x13, x14, x15⟩ := hSw; go_simp; (try rw [if_neg (by omega)]); try exact rfl
  try simp only [List.setIfInBounds_toArray, List.set_cons_zero, List.set_cons_succ]
  refine takeYes (i := 7) (d := 25) (v := ?_) rfl rfl (by kernel_rfl) (by kernel_rfl) (by kernel_rfl) (fun _ _ _ h => h) (by rfl) (by assumption) ?_ ?_
  rotate_left
  · intro w' hSw; obtain ⟨x0, x1, x2, x3, x4, x5, x6, x7, x8, x9, x10, x11, x12, x13, x14, x15⟩ := hSw; go_simp; (try rw [if_neg (by omega)]); try exact rfl
  try simp only [List.setIfInBounds_toArray, List.set_cons_zero, List.set_cons_succ]
  refine takeYes (i := 8) (d := 26) (v := ?_) rfl rfl (by kernel_rfl) (by kernel_rfl) (by kernel_rfl) (fun _ _ _ h => h) (by rfl) (by assumption) ?_ ?_
  rotate_left
  · intro w' hSw; obtain ⟨x0, x1, x2, x3, x4, x5, x6, x7, x8, x9, x10, x11, x12, x13, x14, x15⟩ := hSw; go_simp; (try rw [if_neg (by omega)]); try exact rfl
  try simp only [List.setIfInBounds_toArray, List.set_cons_zero, List.set_cons_succ]
  refine takeYes (i := 11) (d := 29) (v := ?_) rfl rfl (by kernel_rfl) (by kernel_rfl) (by kernel_rfl) (fun _ _ _ h => h) (by rfl) (by assumption) ?_ ?_
  rotate_left
  · intro w' hSw; obtain ⟨x0, x1, x2, x3, x4, x5, x6, x7, x8, x9, x10, x11, x12, x13, x14, x15⟩ := hSw; go_simp; (try rw [if_neg (by omega)]); try exact rfl
  try simp only [List.setIfInBounds_toArray, List.set_cons_zero, List.set_cons_succ]
  refine takeYes (i := 12) (d := 30) (v := ?_) rfl rfl (by kernel_rfl) (by kernel_rfl) (by kernel_rfl) (fun _ _ _ h => h) (by rfl) (by assumption) ?_ ?_
  rotate_left
  · intro w' hSw; obtain ⟨x0, x1, x2, x3, x4, x5, x6, x7, x8, x9, x10, x11, x12, x13, x14, x15⟩ := hSw; go_simp; (try rw [if_neg (by omega)]); try exact rfl
  try simp only [List.setIfInBounds_toArray, List.set_cons_zero, List.set_cons_succ]
  refine takeYes (i := 13) (d := 31) (v := ?_) rfl rfl (by kernel_rfl) (by kernel_rfl) (by kernel_rfl) (fun _ _ _ h => h) (by rfl) (by assumption) ?_ ?_
  rotate_left
  · intro w' hSw; obtain ⟨x0, x1, x2, x3, x4, x5, x6, x7, x8, x9, x10, x11, x12, x13, x14, x15⟩ := hSw; go_simp; (try rw [if_neg (by omega)]); try exact rfl
  try simp only [List.setIfInBounds_toArray, List.set_cons_zero, List.set_cons_succ]
  refine takeYes (i := 14) (d := 32) (v := ?_) rfl rfl (by kernel_rfl) (by kernel_rfl) (by kernel_rfl) (fun _ _ _ h => h) (by rfl) (by assumption) ?_ ?_
  rotate_left
  · intro w' hSw; obtain ⟨x0, x1, x2, x3, x4, x5, x6, x7, x8, x9, x10, x11, x12, x13, x14, x15⟩ := hSw; go_simp; (try rw [if_neg (by omega)]); try exact rfl
  try simp only [List.setIfInBounds_toArray, List.set_cons_zero, List.set_cons_succ]
  refine wpAnyH_ready (rs := [4]) (by kernel_rfl) (by simp) ?_
  refine AllReadyH.cons rfl (fun K hK => ?_) AllReadyH.nil
  go_simp
  go_at_call 34
  refine Calls.mono (hX _ (by repeat (first | (with_reducible exact Below.refl _ _) | (with_reducible refine Below.drew ?_) | (with_reducible refine Below.alloc ?_ ?hh _; case hh => first | (simp; done) | (simp; omega) | omega) | (with_reducible refine Below.setCell ?_ ?hh _; case hh => first | (simp; done) | (simp; omega) | omega) | refine bstep (by assumption) (by first | (simp; done) | (simp; omega) | omega) ?_))) ?_
  rintro q w2 ⟨rfl, hb2⟩
  have hz2 := hb2.size
  (try simp at hz2)
  try go_wp2_with fail
  refine hK.out _ _ ?_ (fun hHeld4 => ?_)
  · exact hB.keep (by repeat (first | (with_reducible exact Below.refl _ _) | (with_reducible refine Below.drew ?_) | (with_reducible refine Below.alloc ?_ ?hh _; case hh => first | (simp; done) | (simp; omega) | omega) | (with_reducible refine Below.setCell ?_ ?hh _; case hh => first | (simp; done) | (simp; omega) | omega) | refine bstep (by assumption) (by first | (simp; done) | (simp; omega) | omega) ?_))
  clear hK
  refine takeYes (i := 5) (d := 23) (v := ?_) rfl rfl (by kernel_rfl) (by kernel_rfl) (by kernel_rfl) (fun _ _ _ h => h) (by rfl) (by assumption) ?_ ?_
  rotate_left
  · intro w' hSw; obtain ⟨x0, x1, x2, x3, x4, x5, x6, x7, x8, x9, x10, x11, x12, x13, x14, x15⟩ := hSw; go_simp; (try rw [if_neg (by omega)]); try exact rfl
  try simp only [List.setIfInBounds_toArray, List.set_cons_zero, List.set_cons_succ]
  refine takeYes (i := 6) (d := 24) (v := ?_) rfl rfl (by kernel_rfl) (by kernel_rfl) (by kernel_rfl) (fun _ _ _ h => h) (by rfl) (by assumption) ?_ ?_
  rotate_left
  · intro w' hSw; obtain ⟨x0, x1, x2, x3, x4, x5, x6, x7, x8, x9, x10, x11, x12, x13, x14, x15⟩ := hSw; go_simp; (try rw [if_neg (by omega)]); try exact rfl
  try simp only [List.setIfInBounds_toArray, List.set_cons_zero, List.set_cons_succ]
  refine takeYes (i := 9) (d := 27) (v := ?_) rfl rfl (by kernel_rfl) (by kernel_rfl) (by kernel_rfl) (fun _ _ _ h => h) (by rfl) (by assumption) ?_ ?_
  rotate_left
  · intro w' hSw; obtain ⟨x0, x1, x2, x3, x4, x5, x6, x7, x8, x9, x10, x11, x12, x13, x14, x15⟩ := hSw; go_simp; (try rw [if_neg (by omega)]); try exact rfl
  try simp only [List.setIfInBounds_toArray, List.set_cons_zero, List.set_cons_succ]
  refine takeYes (i := 10) (d := 28) (v := ?_) rfl rfl (by kernel_rfl) (by kernel_rfl) (by kernel_rfl) (fun _ _ _ h => h) (by rfl) (by assumption) ?_ ?_
  rotate_left
  · intro w' hSw; obtain ⟨x0, x1, x2, x3, x4, x5, x6, x7, x8, x9, x10, x11, x12, x13, x14, x15⟩ := hSw; go_simp; (try rw [if_neg (by omega)]); try exact rfl
  try simp only [List.setIfInBounds_toArray, List.set_cons_zero, List.set_cons_succ]
  refine wpAnyH_ready (rs := [15]) (by kernel_rfl) (by simp) ?_
  refine AllReadyH.cons rfl (fun K hK => ?_) AllReadyH.nil
  go_simp
  go_at_call 34
  refine Calls.mono (hY _ (by repeat (first | (with_reducible exact Below.refl _ _) | (with_reducible refine Below.drew ?_) | (with_reducible refine Below.alloc ?_ ?hh _; case hh => first | (simp; done) | (simp; omega) | omega) | (with_reducible refine Below.setCell ?_ ?hh _; case hh => first | (simp; done) | (simp; omega) | omega) | refine bstep (by assumption) (by first | (simp; done) | (simp; omega) | omega) ?_))) ?_
  rintro q w3 ⟨rfl, hb3⟩
  have hz3 := hb3.size
  (try simp at hz3)
  try go_wp2_with fail
  refine hK.out _ _ ?_ (fun hHeld15 => ?_)
  · exact hB.keep (by repeat (first | (with_reducible exact Below.refl _ _) | (with_reducible refine Below.drew ?_) | (with_reducible refine Below.alloc ?_ ?hh _; case hh => first | (simp; done) | (simp; omega) | omega) | (with_reducible refine Below.setCell ?_ ?hh _; case hh => first | (simp; done) | (simp; omega) | omega) | refine bstep (by assumption) (by first | (simp; done) | (simp; omega) | omega) ?_))
  clear hK
  refine takeYes (i := 16) (d := 34) (v := ?_) rfl rfl (by kernel_rfl) (by kernel_rfl) (by kernel_rfl) (fun _ _ _ h => h) (by rfl) (by assumption) ?_ ?_
  rotate_left
  · intro w' hSw; obtain ⟨x0, x1, x2, x3, x4, x5, x6, x7, x8, x9, x10, x11, x12, x13, x14, x15⟩ := hSw; go_simp; (try rw [if_neg (by omega)]); try exact rfl
  try simp only [List.setIfInBounds_toArray, List.set_cons_zero, List.set_cons_succ]
  refine takeYes (i := 17) (d := 35) (v := ?_) rfl rfl (by kernel_rfl) (by kernel_rfl) (by kernel_rfl) (fun _ _ _ h => h) (by rfl) (by assumption) ?_ ?_
  rotate_left
  · intro w' hSw; obtain ⟨x0, x1, x2, x3, x4, x5, x6, x7, x8, x9, x10, x11, x12, x13, x14, x15⟩ := hSw; go_simp; (try rw [if_neg (by omega)]); try exact rfl
  try simp only [List.setIfInBounds_toArray, List.set_cons_zero, List.set_cons_succ]
  refine takeYes (i := 18) (d := 2) (v := ?_) rfl rfl (by kernel_rfl) (by kernel_rfl) (by kernel_rfl) (fun _ _ _ h => h) (by rfl) (by assumption) ?_ ?_
  rotate_left
  · intro w' hSw; obtain ⟨x0, x1, x2, x3, x4, x5, x6, x7, x8, x9, x10, x11, x12, x13, x14, x15⟩ := hSw; go_simp; (try rw [if_neg (by omega)]); try exact rfl
  try simp only [List.setIfInBounds_toArray, List.set_cons_zero, List.set_cons_succ]
  refine wpAnyH_done (by kernel_rfl) ?_ _
  have bel2 : Below w.heap.size w w3 := by repeat (first | (with_reducible exact Below.refl _ _) | (with_reducible refine Below.drew ?_) | (with_reducible refine Below.alloc ?_ ?hh _; case hh => first | (simp; done) | (simp; omega) | omega) | (with_reducible refine Below.setCell ?_ ?hh _; case hh => first | (simp; done) | (simp; omega) | omega) | refine bstep (by assumption) (by first | (simp; done) | (simp; omega) | omega) ?_)
  clear hX hY hb2 hb3
  go_wp2
  go_returns
  exact ⟨by rw [← HF.out]; rfl, bel2⟩
theorem txS_any : ∀ f, TxS f
  | 0 => fun e u F d w hw hk h => by cases h
  | f + 1 => by
    have ih := txS_any f
    intro e u F d w hw hk h hf hE
    rcases okE_cases h with h0 | h0 | ⟨h0, hp, x, y, hx, ox, oy⟩ | ⟨h0, x, hx, ox⟩ | ⟨h0, x, hx, ox⟩
    · exact txS_0 hw hk h0 hE
    · exact txS_1 hw hk h0 hE
    · exact txS_2 ih hw hk h0 hp hx ox oy (by omega) hE
    · exact txS_3 ih hw hk h0 hx ox (by omega) hE
    · exact txS_4 ih hw hk h0 hx ox (by omega) hE
set_option maxHeartbeats 2000000 in
set_option maxRecDepth 100000 in
theorem specExpText_any (e : E7) (u : Value) (F : List Nat) (d : Nat) (w : World) (hw : e.wf) (hk : KidsIs w d u e.ks F) (hE : Env w) :
    Calls Tryd.prog 22 #[(.agg #[.int .i64 e.k, .int .i64 e.n, .int .i64 e.v.k, .int .i64 e.v.n, .string e.v.s, .string e.p, u])] w fun x w' => x = .returned (.string (bs (expText e))) ∧ Below w.heap.size w w' := by
  obtain ⟨a, c, rfl, _, hc⟩ := hk.shape
  obtain ⟨r, hr⟩ : ∃ r, Hid (expText e = r) := ⟨_, rfl⟩
  rw [hr.out]
  obtain ⟨ok, hok⟩ : ∃ ok, Hid (okE 13 e = ok) := ⟨_, rfl⟩
  have hO : ∀ w2, Below w.heap.size w w2 → Calls Tryd.prog 33 #[(.agg #[.int .i64 e.k, .int .i64 e.n, .int .i64 e.v.k, .int .i64 e.v.n, .string e.v.s, .string e.p, (.slice a e.ks.length c)])] w2 fun x w' => x = .returned (.bool ok) ∧ Below w2.heap.size w2 w' := fun w2 hb => by
    have := specExpOk_any e _ F d w2 hw (hk.below hb)
    rw [hok.out] at this
    exact this
  have hT : Hid (ok = true → ∀ w2, Below w.heap.size w w2 → Calls Tryd.prog 34 #[(.agg #[.int .i64 e.k, .int .i64 e.n, .int .i64 e.v.k, .int .i64 e.v.n, .string e.v.s, .string e.p, (.slice a e.ks.length c)])] w2 fun x w' => x = .returned (.string (bs (expT 13 e))) ∧ Below w2.heap.size w2 w') := fun h w2 hb => txS_any 13 e _ F d w2 hw (hk.below hb) (by rw [hok.out]; exact h) (by decide) (hE.below hb)
  clear hk hw hE
  go_enter Tryd.func22, Tryd.ntmps22
  go_wp2_with fail
  refine Calls.mono (hO _ ?hb) ?_
  case hb => repeat (first | (with_reducible exact Below.refl _ _) | (with_reducible refine Below.drew ?_) | (with_reducible refine Below.alloc ?_ ?hh _; case hh => first | (simp; done) | (simp; omega) | omega) | (with_reducible refine Below.setCell ?_ ?hh _; case hh => first | (simp; done) | (simp; omega) | omega) | refine bstep (by assumption) (by first | (simp; done) | (simp; omega) | omega) ?_)
  rintro x w1 ⟨rfl, hb1⟩
  have hz1 := hb1.size
  simp only [World.size_alloc] at hz1
  have b0 : w1.cell? ⟨w.heap.size, 0, none⟩ = some (.int .i64 e.k) := cell_later hb1 (by go_simp)
  have b1 : w1.cell? ⟨w.heap.size, 1, none⟩ = some (.int .i64 e.n) := cell_later hb1 (by go_simp)
  have b2 : w1.cell? ⟨w.heap.size, 2, none⟩ = some (.int .i64 e.v.k) := cell_later hb1 (by go_simp)
  have b3 : w1.cell? ⟨w.heap.size, 3, none⟩ = some (.int .i64 e.v.n) := cell_later hb1 (by go_simp)
  have b4 : w1.cell? ⟨w.heap.size, 4, none⟩ = some (.string e.v.s) := cell_later hb1 (by go_simp)
  have b5 : w1.cell? ⟨w.heap.size, 5, none⟩ = some (.string e.p) := cell_later hb1 (by go_simp)
  have b6 : w1.cell? ⟨w.heap.size, 6, none⟩ = some (.slice a e.ks.length c) := cell_later hb1 (by go_simp)
  have bel1 : Below w.heap.size w w1 := by repeat (first | (with_reducible exact Below.refl _ _) | (with_reducible refine Below.drew ?_) | (with_reducible refine Below.alloc ?_ ?hh _; case hh => first | (simp; done) | (simp; omega) | omega) | (with_reducible refine Below.setCell ?_ ?hh _; case hh => first | (simp; done) | (simp; omega) | omega) | refine bstep (by assumption) (by first | (simp; done) | (simp; omega) | omega) ?_)
  clear hb1 hO
  cases ok with
  | false =>
    have hp : Hid (r = []) := by show _ = _; rw [← hr.out]; unfold expText; rw [hok.out]; rfl
    go_wp2_with fail
    go_returns
    exact ⟨by rw [hp.out]; rfl, bel1⟩
  | true =>
    have hp : Hid (r = expT 13 e) := by show _ = _; rw [← hr.out]; unfold expText; rw [hok.out]; rfl
    have hT2 := hT.out rfl
    rw [← hp.out] at hT2
    go_wp2_with fail
    refine Calls.mono (hT2 _ bel1) ?_
    rintro x w2 ⟨rfl, hb2⟩
    have bel2 : Below w.heap.size w w2 := bel1.trans (hb2.mono bel1.size)
    clear hb2 hT2
    go_wp2_with fail
    go_returns
    exact ⟨rfl, bel2⟩
end Go.Proofs.YtlpgkhdmilnbgaaDoor
