/- Own text. The contract of spec.Names. -/
import Derived.Test.YtjhcachbaebhfaaNmA
import Derived.Test.YtjhcachbaebhfaaColS
import Derived.Handy
namespace Go.Proofs.Ytjhcachbaebhfaa
open Go.RowKit Go.Deep Go.ChangeShapes Go.WideShapes
set_option linter.unusedVariables false
/-- the names of p and of its first k kids. -/
def accN (d : Nat) (p : P12) (k : Nat) : List ByteArray := (p.ks.take k).foldl (fun acc k => (namL d k).foldl addS acc) (if p.k = 0 then [p.s] else [])
theorem accN_zero (d : Nat) (p : P12) : accN d p 0 = if p.k = 0 then [p.s] else [] := by simp [accN]
theorem accN_all (d : Nat) (p : P12) : accN d p p.ks.length = namL (d + 1) p := by rw [accN, List.take_length, namL]
theorem accN_succ {d : Nat} {p : P12} {k : Nat} {x : P12} (h : p.ks[k]? = some x) : accN d p (k + 1) = (namL d x).foldl addS (accN d p k) := by
  unfold accN
  rw [take_snocC h, List.foldl_append]
  rfl
theorem foldl_addS_len : ∀ (l acc : List ByteArray), (l.foldl addS acc).length ≤ acc.length + l.length
  | [], acc => by simp
  | x :: l, acc => by
    have h1 := foldl_addS_len l (addS acc x)
    have h2 := addS_len acc x
    simp only [List.foldl_cons, List.length_cons]
    omega
theorem foldl_nam_len (f : P12 → List ByteArray) (hf : ∀ k, (f k).length ≤ 1 + wtP k) : ∀ (ks : List P12) (acc : List ByteArray), (ks.foldl (fun acc k => (f k).foldl addS acc) acc).length ≤ acc.length + (ks.length + wtPs ks)
  | [], acc => by simp
  | k :: ks, acc => by
    have h1 := foldl_nam_len f hf ks ((f k).foldl addS acc)
    have h2 := foldl_addS_len (f k) acc
    have h3 := hf k
    have h4 : wtPs (k :: ks) = wtP k + wtPs ks := by rw [← wtPs_sum, ← wtPs_sum]; simp
    simp only [List.foldl_cons, List.length_cons]
    omega
theorem namL_len : ∀ (d : Nat) (p : P12), (namL d p).length ≤ 1 + wtP p
  | 0, p => by simp [namL]
  | d + 1, p => by
    rw [namL]
    have h1 := foldl_nam_len (namL d) (namL_len d) p.ks (if p.k = 0 then [p.s] else [])
    have h2 : (if p.k = 0 then [p.s] else []).length ≤ 1 := by split <;> simp
    have h3 := wtP_eq p
    omega
theorem accN_len (d : Nat) (p : P12) (k : Nat) : (accN d p k).length ≤ 1 + wtP p := by
  unfold accN
  have h1 := foldl_nam_len (namL d) (namL_len d) (p.ks.take k) (if p.k = 0 then [p.s] else [])
  have h2 : (if p.k = 0 then [p.s] else []).length ≤ 1 := by split <;> simp
  have h3 := wtP_eq p
  have h4 : (p.ks.take k).length + wtPs (p.ks.take k) ≤ p.ks.length + wtPs p.ks := by
    have : wtPs p.ks = wtPs (p.ks.take k) + wtPs (p.ks.drop k) := by rw [← wtPs_app, List.take_append_drop]
    simp
    omega
  omega
/-- Names of a plan whose kids are at most d deep. -/
def NmS (D d : Nat) : Prop := ∀ (p : P12) (ue us u : Value) (g : List Nat) (w : World), ListsP w D (PlansIs w D d) p ue us u g → wtP p ≤ 1048576 →
    Calls Try.prog 55 #[(.agg #[.int .i64 p.k, .string p.s, .int .i64 p.e.k, .int .i64 p.e.n, .int .i64 p.e.v.k, .int .i64 p.e.v.n, .string p.e.v.s, .string p.e.p, ue, us, .int .i64 p.n, u])] w fun x w' => (∃ v, x = .returned v ∧ StrsI w' v (namL d p)) ∧ Below w.heap.size w w'
set_option maxHeartbeats 4000000 in
set_option maxRecDepth 100000 in
theorem specNames_step {D d : Nat} (ih : NmS D d) : NmS D (d + 1) := by
  intro p ue us u g w hL hn
  have ih : ∀ (p : P12) (ue us u : Value) (g : List Nat) (w : World), ListsP w D (PlansIs w D d) p ue us u g → wtP p ≤ 1048576 →
    Calls Try.prog 55 #[(.agg #[.int .i64 p.k, .string p.s, .int .i64 p.e.k, .int .i64 p.e.n, .int .i64 p.e.v.k, .int .i64 p.e.v.n, .string p.e.v.s, .string p.e.p, ue, us, .int .i64 p.n, u])] w fun x w' => (∃ v, x = .returned v ∧ StrsI w' v (namL d p)) ∧ Below w.heap.size w w' := ih
  obtain ⟨ae, ce, ak, ck, a, c, rfl, rfl, rfl, _, _, _, _, _, _⟩ := hL.shape
  obtain ⟨Fe, Fs, h, rfl, ke, kes, kp⟩ := hL
  obtain ⟨a_, c_, b, o, G0, es_, hl, hc, hG0, _, ha⟩ := kp.pick
  cases es_
  unfold maxLen at hc
  have hwe := wtP_eq p
  obtain ⟨i0, hi, hz0, hz1', hz2'⟩ := info_parts Try.infoStr
  clear ke kes kp
  by_cases hk0 : p.k = 0
  · have HA : Hid (accN d p 0 = [p.s]) := by show _ = _; rw [accN_zero, if_pos hk0]
    have hkb : (p.k == 0) = true := by simpa using hk0
    have hkd : decide (p.k = 0) = true := by simpa using hk0
    clear hk0
    have hO3 : (((w.alloc (.cells #[.int .i64 p.k, .string p.s, .int .i64 p.e.k, .int .i64 p.e.n, .int .i64 p.e.v.k, .int .i64 p.e.v.n, .string p.e.v.s, .string p.e.p, .slice ae p.e.ks.length ce, .slice ak p.es.length ck, .int .i64 p.n, .slice a p.ks.length c] 77)).alloc (.cells #[] 9)).alloc (.cells #[.string p.s] 9)).ownsRow (w.heap.size + 1) 9 1 (.slice (some ⟨w.heap.size + 1, 0, none⟩) 0 0) 0 [] := ownsE_keep (ints_none (by simp) (Nat.le_refl _)) fun q hq => Below.heap_alloc _ _ _ (by simp [Value.ownBlock] at hq; subst hq; simp)
    have hnew : ∀ j' u, [Value.string p.s][j']? = some u → (((w.alloc (.cells #[.int .i64 p.k, .string p.s, .int .i64 p.e.k, .int .i64 p.e.n, .int .i64 p.e.v.k, .int .i64 p.e.v.n, .string p.e.v.s, .string p.e.p, .slice ae p.e.ks.length ce, .slice ak p.es.length ck, .int .i64 p.n, .slice a p.ks.length c] 77)).alloc (.cells #[] 9)).alloc (.cells #[.string p.s] 9)).cell? ((⟨w.heap.size + 1 + 1, 0, none⟩ : Addr).add j') = some u := by
      intro j' u hu
      match j', hu with
      | 0, hu => simp at hu; subst hu; go_simp
    have hbW3 : Below w.heap.size w (((w.alloc (.cells #[.int .i64 p.k, .string p.s, .int .i64 p.e.k, .int .i64 p.e.n, .int .i64 p.e.v.k, .int .i64 p.e.v.n, .string p.e.v.s, .string p.e.p, .slice ae p.e.ks.length ce, .slice ak p.es.length ck, .int .i64 p.n, .slice a p.ks.length c] 77)).alloc (.cells #[] 9)).alloc (.cells #[.string p.s] 9)) := by repeat (first | (with_reducible exact Below.refl _ _) | (with_reducible refine Below.drew ?_) | (with_reducible refine Below.alloc ?_ ?hh _; case hh => first | (simp; done) | (simp; omega) | omega) | (with_reducible refine Below.setCell ?_ ?hh _; case hh => first | (simp; done) | (simp; omega) | omega) | refine bstep (by assumption) (by first | (simp; done) | (simp; omega) | omega) ?_)
    have hc11 : (((w.alloc (.cells #[.int .i64 p.k, .string p.s, .int .i64 p.e.k, .int .i64 p.e.n, .int .i64 p.e.v.k, .int .i64 p.e.v.n, .string p.e.v.s, .string p.e.p, .slice ae p.e.ks.length ce, .slice ak p.es.length ck, .int .i64 p.n, .slice a p.ks.length c] 77)).alloc (.cells #[] 9)).alloc (.cells #[.string p.s] 9)).cell? ⟨w.heap.size, 11, none⟩ = some (.slice a p.ks.length c) := by go_simp
    go_enter Try.func55, Try.ntmps55
    go_wp2_with (at_builtin; refine wpList_append_own_at _ rfl _ _ 80 rfl (w.heap.size + 1) 9 i0 _ 1 16 Try.underlying80 hi hz0 hz1' hz2' rfl (by decide) (.slice (some ⟨w.heap.size + 1, 0, none⟩) 0 0) 0 [] rfl hO3 ⟨w.heap.size + 1 + 1, 0, none⟩ 1 1 [.string p.s] rfl rfl hnew (by simp [Value.oneCell']) ?c3 ?c4 ?c5 ?_)
    case c3 => unfold maxLen; omega
    case c4 => omega
    case c5 => simp; try omega
    intro v5 W hown5 hgr5 _ hat5
    have hW0 := hgr5.size
    simp only [World.size_alloc] at hW0
    have hI0 : StrsI W v5 [p.s] := strs_own (N := w.heap.size + 1) (n := 0 + 1) (by simpa [strs] using hown5) (by simp)
    have hbW : Below w.heap.size w W := hbW3.grown hgr5 (by simp; try omega) (fun q hq => by simp [Value.ownBlock] at hq; omega)
    have hbx0 : W.cell? ⟨w.heap.size, 11, none⟩ = some (.slice a p.ks.length c) := (hgr5.cell_far _ (by simp; try omega) (by simp [Value.ownBlock]; try omega)).trans hc11
    obtain ⟨yb, yo, yc, e0, _⟩ := id hI0
    replace e0 : v5 = .slice (some ⟨yb, yo, none⟩) 1 yc := e0
    subst e0
    clear hO3 hnew hbW3 hc11 hown5 hgr5 hat5
    go_wp2
    go_loopw [3, 4] (fun y i wr => ∃ (k : Nat) (yb yo yc : Nat), k ≤ p.ks.length ∧ i = .int .i64 k ∧ y = .slice (some ⟨yb, yo, none⟩) (accN d p k).length yc ∧ StrsI wr (.slice (some ⟨yb, yo, none⟩) (accN d p k).length yc) (accN d p k) ∧ wr.cell? ⟨w.heap.size, 11, none⟩ = some (.slice a p.ks.length c) ∧ Below w.heap.size w wr ∧ w.heap.size < wr.heap.size) (fun _ i _ => p.ks.length - (intOf i).toNat)
    case atStart => exact ⟨0, yb, yo, yc, Nat.zero_le _, rfl, by first | (rw [HA.out]; done) | (rw [HA.out]; rfl) | (rw [HA.out]; simp), by rw [HA.out]; exact hI0, hbx0, hbW, by omega⟩
    case round =>
      obtain ⟨k, yb, yo, yc, hk, rfl, rfl, hI, hbx, hb, hz⟩ := hrel
      have hzb := hb.size
      by_cases hlt : k < p.ks.length
      · obtain ⟨rfl, hblt, _, hL⟩ := ha k hlt
        obtain ⟨x, g0, xe, xs, xu, hx, _, hxw, ⟨c0, c1, c2, c3, c4, c5, c6, c7, c8, c9, c10, c11⟩, hLx, hbr⟩ := hL.at hG0 hblt hb hlt
        obtain ⟨ae0, ce0, ak0, ck0, a0, n0, rfl, rfl, rfl, _, _, _, _, _, _⟩ := hLx.shape
        have hxm := List.mem_of_getElem? hx
        have hxn : wtP x ≤ 1048576 := by have := wtP_mem hxm; omega
        have hAk := accN_len d p k
        have hXl := namL_len d x
        have HK : Hid (accN d p (k + 1) = (namL d x).foldl addS (accN d p k)) := accN_succ hx
        clear hL hx HA hI0 hbW hW0
        go_wp2_with fail
        refine Calls.mono (ih x (.slice ae0 x.e.ks.length ce0) (.slice ak0 x.es.length ck0) (.slice a0 x.ks.length n0) g0 wr hLx hxn) ?_
        rintro q w1 ⟨⟨v1, rfl, hI1⟩, hb1⟩
        have hz1 := hb1.size
        have hbw1 : Below w.heap.size w w1 := hb.trans (hb1.mono hzb)
        have hIy := hI.below hb1
        have hbx1 := ((bcell hb1).1 _ _ hz).trans hbx
        have hz1w : w.heap.size < w1.heap.size := by omega
        obtain ⟨mb, mo, mc, rfl, hml, hmc, hmlt, hmcell⟩ := hI1
        unfold maxLen at hmc
        generalize accN d p k = ac at *
        generalize namL d x = xl at *
        clear hI hbx hb1 hb c0 c1 c2 c3 c4 c5 c6 c7 c8 c9 c10 c11 hLx
        go_wp2
        go_loopw [3, 6] (fun y j wr' => ∃ (m : Nat) (yb yo yc : Nat), m ≤ xl.length ∧ j = .int .i64 m ∧ y = .slice (some ⟨yb, yo, none⟩) ((xl.take m).foldl addS ac).length yc ∧ StrsI wr' (.slice (some ⟨yb, yo, none⟩) ((xl.take m).foldl addS ac).length yc) ((xl.take m).foldl addS ac) ∧ Below w1.heap.size w1 wr') (fun _ j _ => xl.length - (intOf j).toNat)
        case atStart => exact ⟨0, yb, yo, yc, Nat.zero_le _, rfl, by simp, by simpa using hIy, Below.refl _ _⟩
        case round =>
          obtain ⟨m, yb, yo, yc, hm, rfl, rfl, hIm, hbm⟩ := hrel
          have hzm := hbm.size
          by_cases hml2 : m < xl.length
          · obtain ⟨z, hz0⟩ : ∃ z, xl[m]? = some z := ⟨xl[m], by simp [hml2]⟩
            have cz := ((bcell hbm).1 _ _ hmlt).trans (hmcell m z hz0)
            have HF : Hid ((xl.take (m + 1)).foldl addS ac = addS ((xl.take m).foldl addS ac) z) := by
              show _ = _
              rw [take_snocC hz0, List.foldl_append]; rfl
            have hfl := foldl_addS_len (xl.take m) ac
            have hfl2 : (xl.take m).length ≤ m := by simp; omega
            generalize (xl.take m).foldl addS ac = af at *
            clear hmcell hIy hz0
            go_wp2_with fail
            refine Calls.mono (l04Put_any (.slice (some ⟨yb, yo, none⟩) af.length yc) af z _ hIm (by omega)) ?_
            rintro q w2 ⟨⟨v2, rfl, hI2⟩, hb2⟩
            have hI2' := hI2
            rw [← HF.out] at hI2'
            obtain ⟨b2, o2, k2, e2, _⟩ := id hI2'
            subst e2
            have hbm2 : Below w1.heap.size w1 w2 := hbm.trans (hb2.mono hzm)
            clear hI2 hb2 hIm
            go_wp2
            exact ⟨⟨m + 1, b2, o2, k2, hml2, by simp, rfl, hI2', hbm2⟩, by simp [intOf]; omega⟩
          · obtain rfl : m = xl.length := by omega
            rw [List.take_length] at hIm
            have hbx2 := ((bcell hbm).1 _ _ hz1w).trans hbx1
            have hbw2 : Below w.heap.size w wr := hbw1.trans (hbm.mono (by omega))
            have hz2w : w.heap.size < wr.heap.size := by omega
            clear hmcell hIy hbm
            simp only [List.take_length]
            go_wp2
            exact ⟨⟨k + 1, yb, yo, yc, hlt, by simp, by rw [HK.out], by rw [HK.out]; exact hIm, hbx2, hbw2, hz2w⟩, by simp [intOf]; omega⟩
      · obtain rfl : k = p.ks.length := by omega
        have HC : Hid (StrsI wr (.slice (some ⟨yb, yo, none⟩) (accN d p p.ks.length).length yc) (namL (d + 1) p)) := by
          have := hI
          rw [show namL (d + 1) p = accN d p p.ks.length from (accN_all d p).symm]
          exact hI
        clear hI HA hI0 hbW hW0
        go_wp2
        refine bodyPost_ret (v := .slice (some ⟨yb, yo, none⟩) (accN d p p.ks.length).length yc) (by simp [results, Try.results55, go_sem]) rfl ⟨⟨_, rfl, HC.out⟩, hb⟩
  · have HA : Hid (accN d p 0 = []) := by show _ = _; rw [accN_zero, if_neg hk0]
    have hkb : (p.k == 0) = false := by simpa using hk0
    have hkd : decide (p.k = 0) = false := by simpa using hk0
    clear hk0
    have hI0 : StrsI ((w.alloc (.cells #[.int .i64 p.k, .string p.s, .int .i64 p.e.k, .int .i64 p.e.n, .int .i64 p.e.v.k, .int .i64 p.e.v.n, .string p.e.v.s, .string p.e.p, .slice ae p.e.ks.length ce, .slice ak p.es.length ck, .int .i64 p.n, .slice a p.ks.length c] 77)).alloc (.cells #[] 9)) (.slice (some ⟨w.heap.size + 1, 0, none⟩) 0 0) [] := ⟨w.heap.size + 1, 0, 0, rfl, Nat.le_refl _, by simp, by simp, fun i n h => by simp at h⟩
    have hbW : Below w.heap.size w ((w.alloc (.cells #[.int .i64 p.k, .string p.s, .int .i64 p.e.k, .int .i64 p.e.n, .int .i64 p.e.v.k, .int .i64 p.e.v.n, .string p.e.v.s, .string p.e.p, .slice ae p.e.ks.length ce, .slice ak p.es.length ck, .int .i64 p.n, .slice a p.ks.length c] 77)).alloc (.cells #[] 9)) := by repeat (first | (with_reducible exact Below.refl _ _) | (with_reducible refine Below.drew ?_) | (with_reducible refine Below.alloc ?_ ?hh _; case hh => first | (simp; done) | (simp; omega) | omega) | (with_reducible refine Below.setCell ?_ ?hh _; case hh => first | (simp; done) | (simp; omega) | omega) | refine bstep (by assumption) (by first | (simp; done) | (simp; omega) | omega) ?_)
    have hW0 : w.heap.size + 1 + 1 ≤ ((w.alloc (.cells #[.int .i64 p.k, .string p.s, .int .i64 p.e.k, .int .i64 p.e.n, .int .i64 p.e.v.k, .int .i64 p.e.v.n, .string p.e.v.s, .string p.e.p, .slice ae p.e.ks.length ce, .slice ak p.es.length ck, .int .i64 p.n, .slice a p.ks.length c] 77)).alloc (.cells #[] 9)).heap.size := by simp
    obtain ⟨yb, hyb⟩ : ∃ yb, yb = w.heap.size + 1 := ⟨_, rfl⟩
    obtain ⟨yo, hyo⟩ : ∃ yo, yo = 0 := ⟨_, rfl⟩
    obtain ⟨yc, hyc⟩ : ∃ yc, yc = 0 := ⟨_, rfl⟩
    go_enter Try.func55, Try.ntmps55
    go_wp2
    go_loopw [3, 4] (fun y i wr => ∃ (k : Nat) (yb yo yc : Nat), k ≤ p.ks.length ∧ i = .int .i64 k ∧ y = .slice (some ⟨yb, yo, none⟩) (accN d p k).length yc ∧ StrsI wr (.slice (some ⟨yb, yo, none⟩) (accN d p k).length yc) (accN d p k) ∧ wr.cell? ⟨w.heap.size, 11, none⟩ = some (.slice a p.ks.length c) ∧ Below w.heap.size w wr ∧ w.heap.size < wr.heap.size) (fun _ i _ => p.ks.length - (intOf i).toNat)
    case atStart => exact ⟨0, w.heap.size + 1, 0, 0, Nat.zero_le _, rfl, by rw [HA.out]; rfl, by rw [HA.out]; exact hI0, by go_simp, hbW, by simp; omega⟩
    case round =>
      obtain ⟨k, yb, yo, yc, hk, rfl, rfl, hI, hbx, hb, hz⟩ := hrel
      have hzb := hb.size
      by_cases hlt : k < p.ks.length
      · obtain ⟨rfl, hblt, _, hL⟩ := ha k hlt
        obtain ⟨x, g0, xe, xs, xu, hx, _, hxw, ⟨c0, c1, c2, c3, c4, c5, c6, c7, c8, c9, c10, c11⟩, hLx, hbr⟩ := hL.at hG0 hblt hb hlt
        obtain ⟨ae0, ce0, ak0, ck0, a0, n0, rfl, rfl, rfl, _, _, _, _, _, _⟩ := hLx.shape
        have hxm := List.mem_of_getElem? hx
        have hxn : wtP x ≤ 1048576 := by have := wtP_mem hxm; omega
        have hAk := accN_len d p k
        have hXl := namL_len d x
        have HK : Hid (accN d p (k + 1) = (namL d x).foldl addS (accN d p k)) := accN_succ hx
        clear hL hx HA hI0 hbW hW0 hyb hyo hyc
        go_wp2_with fail
        refine Calls.mono (ih x (.slice ae0 x.e.ks.length ce0) (.slice ak0 x.es.length ck0) (.slice a0 x.ks.length n0) g0 wr hLx hxn) ?_
        rintro q w1 ⟨⟨v1, rfl, hI1⟩, hb1⟩
        have hz1 := hb1.size
        have hbw1 : Below w.heap.size w w1 := hb.trans (hb1.mono hzb)
        have hIy := hI.below hb1
        have hbx1 := ((bcell hb1).1 _ _ hz).trans hbx
        have hz1w : w.heap.size < w1.heap.size := by omega
        obtain ⟨mb, mo, mc, rfl, hml, hmc, hmlt, hmcell⟩ := hI1
        unfold maxLen at hmc
        generalize accN d p k = ac at *
        generalize namL d x = xl at *
        clear hI hbx hb1 hb c0 c1 c2 c3 c4 c5 c6 c7 c8 c9 c10 c11 hLx
        go_wp2
        go_loopw [3, 6] (fun y j wr' => ∃ (m : Nat) (yb yo yc : Nat), m ≤ xl.length ∧ j = .int .i64 m ∧ y = .slice (some ⟨yb, yo, none⟩) ((xl.take m).foldl addS ac).length yc ∧ StrsI wr' (.slice (some ⟨yb, yo, none⟩) ((xl.take m).foldl addS ac).length yc) ((xl.take m).foldl addS ac) ∧ Below w1.heap.size w1 wr') (fun _ j _ => xl.length - (intOf j).toNat)
        case atStart => exact ⟨0, yb, yo, yc, Nat.zero_le _, rfl, by simp, by simpa using hIy, Below.refl _ _⟩
        case round =>
          obtain ⟨m, yb, yo, yc, hm, rfl, rfl, hIm, hbm⟩ := hrel
          have hzm := hbm.size
          by_cases hml2 : m < xl.length
          · obtain ⟨z, hz0⟩ : ∃ z, xl[m]? = some z := ⟨xl[m], by simp [hml2]⟩
            have cz := ((bcell hbm).1 _ _ hmlt).trans (hmcell m z hz0)
            have HF : Hid ((xl.take (m + 1)).foldl addS ac = addS ((xl.take m).foldl addS ac) z) := by
              show _ = _
              rw [take_snocC hz0, List.foldl_append]; rfl
            have hfl := foldl_addS_len (xl.take m) ac
            have hfl2 : (xl.take m).length ≤ m := by simp; omega
            generalize (xl.take m).foldl addS ac = af at *
            clear hmcell hIy hz0
            go_wp2_with fail
            refine Calls.mono (l04Put_any (.slice (some ⟨yb, yo, none⟩) af.length yc) af z _ hIm (by omega)) ?_
            rintro q w2 ⟨⟨v2, rfl, hI2⟩, hb2⟩
            have hI2' := hI2
            rw [← HF.out] at hI2'
            obtain ⟨b2, o2, k2, e2, _⟩ := id hI2'
            subst e2
            have hbm2 : Below w1.heap.size w1 w2 := hbm.trans (hb2.mono hzm)
            clear hI2 hb2 hIm
            go_wp2
            exact ⟨⟨m + 1, b2, o2, k2, hml2, by simp, rfl, hI2', hbm2⟩, by simp [intOf]; omega⟩
          · obtain rfl : m = xl.length := by omega
            rw [List.take_length] at hIm
            have hbx2 := ((bcell hbm).1 _ _ hz1w).trans hbx1
            have hbw2 : Below w.heap.size w wr := hbw1.trans (hbm.mono (by omega))
            have hz2w : w.heap.size < wr.heap.size := by omega
            clear hmcell hIy hbm
            simp only [List.take_length]
            go_wp2
            exact ⟨⟨k + 1, yb, yo, yc, hlt, by simp, by rw [HK.out], by rw [HK.out]; exact hIm, hbx2, hbw2, hz2w⟩, by simp [intOf]; omega⟩
      · obtain rfl : k = p.ks.length := by omega
        have HC : Hid (StrsI wr (.slice (some ⟨yb, yo, none⟩) (accN d p p.ks.length).length yc) (namL (d + 1) p)) := by
          have := hI
          rw [show namL (d + 1) p = accN d p p.ks.length from (accN_all d p).symm]
          exact hI
        clear hI HA hI0 hbW hW0
        go_wp2
        refine bodyPost_ret (v := .slice (some ⟨yb, yo, none⟩) (accN d p p.ks.length).length yc) (by simp [results, Try.results55, go_sem]) rfl ⟨⟨_, rfl, HC.out⟩, hb⟩
theorem specNames_any (D : Nat) : ∀ d, NmS D d
  | 0 => fun _ _ _ _ _ _ h => by obtain ⟨_, _, _, _, _, _, h⟩ := h; exact h.elim
  | d + 1 => specNames_step (specNames_any D d)
end Go.Proofs.Ytjhcachbaebhfaa
