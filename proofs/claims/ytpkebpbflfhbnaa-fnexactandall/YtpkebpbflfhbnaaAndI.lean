/- Own text. The contracts of impl.chainOf and impl.AndAll. -/
import Derived.Test.YtpkebpbflfhbnaaAndP
import Derived.Test.YtpkebpbflfhbnaaTake
import Derived.Handy
import Derived.Deep.DrawnRows
import Derived.Deep.RegionHeld3
import Derived.Deep.DeepCutAuto
namespace Go.Proofs.Ytpkebpbflfhbnaa
open Go.RowKit Go.Deep
set_option linter.unusedVariables false
theorem parts_len {e : E7} (h : partsB e = true) : e.ks.length ≤ 2 := by
  unfold partsB at h
  split at h
  · simp at h; have := h.2; simp [this]
  split at h
  · simp at h; have := h.2; simp [this]
  split at h
  · simp at h; omega
  split at h
  · simp at h; omega
  · cases h
/-- what is right has few expressions in it. -/
theorem cnt_ok : ∀ (f : Nat) (e : E7), okE f e = true → cntE e + 1 ≤ 2 ^ f
  | 0, e, h => by simp [okE] at h
  | f + 1, e, h => by
    rw [okE, Bool.and_eq_true] at h
    obtain ⟨hp, ha⟩ := h
    have hl := parts_len hp
    rw [cntE_eq]
    rw [List.all_eq_true] at ha
    have hpow : 2 ^ (f + 1) = 2 * 2 ^ f := by rw [Nat.pow_succ]; omega
    have h1 : 1 ≤ 2 ^ f := Nat.one_le_two_pow
    match hk : e.ks, hl with
    | [], _ => simp [cntEs]; omega
    | [x], _ =>
      have := cnt_ok f x (ha x (by rw [hk]; simp))
      simp [cntEs]
      omega
    | [x, y], _ =>
      have := cnt_ok f x (ha x (by rw [hk]; simp))
      have := cnt_ok f y (ha y (by rw [hk]; simp))
      simp [cntEs]
      omega
    | _ :: _ :: _ :: _, hl => simp at hl
section
attribute [local go_sem ↓] Go.wp_at_zero Go.wp_at_succ
set_option maxHeartbeats 4000000 in
set_option maxRecDepth 100000 in
theorem chainOf_any (d : Nat) (v : Value) (es : List E7) (F : List Nat) (w : World) (hw : ∀ e ∈ es, e.wf) (hk : KidsIs w (d + 1) v es F) (hn : es.length + wtEs es ≤ 1048576) (cc : E7) (hR : Hid (chainE es = cc)) :
    Calls Try.prog 44 #[v] w fun x w' => (∃ u F', x = .returned (.tuple #[(.agg #[.int .i64 cc.k, .int .i64 cc.n, .int .i64 cc.v.k, .int .i64 cc.v.n, .string cc.v.s, .string cc.p, u]), .bool (okE 13 cc)]) ∧ cc.wf ∧ KidsIs w' (d + es.length + 1) u cc.ks F') ∧ Below w.heap.size w w' := by
  obtain ⟨a, c, b, o, G0, rfl, hl, hc, hG0, _, ha⟩ := hk.pick
  unfold maxLen at hc
  clear hk
  go_enter Try.func44, Try.ntmps44
  go_wp2
  go_loopw [11] (fun i wr => ∃ (k : Nat) (cu : E7) (ak : Option Addr) (lk ck : Nat) (Fk : List Nat), k ≤ es.length ∧ i = .int .i64 k ∧ Hid (cu = chainE (es.take k)) ∧ cu.wf ∧ wr.cell? ⟨w.heap.size + 1 + 1, 0, none⟩ = some (.int .i64 cu.k) ∧ wr.cell? ⟨w.heap.size + 1 + 1, 1, none⟩ = some (.int .i64 cu.n) ∧ wr.cell? ⟨w.heap.size + 1 + 1, 2, none⟩ = some (.int .i64 cu.v.k) ∧ wr.cell? ⟨w.heap.size + 1 + 1, 3, none⟩ = some (.int .i64 cu.v.n) ∧ wr.cell? ⟨w.heap.size + 1 + 1, 4, none⟩ = some (.string cu.v.s) ∧ wr.cell? ⟨w.heap.size + 1 + 1, 5, none⟩ = some (.string cu.p) ∧ wr.cell? ⟨w.heap.size + 1 + 1, 6, none⟩ = some (.slice ak lk ck) ∧ (∀ q, wr.frozen? ⟨w.heap.size + 1 + 1, q, none⟩ = false) ∧ wr.cell? ⟨w.heap.size, 0, none⟩ = some (.int .i64 0) ∧ wr.cell? ⟨w.heap.size, 1, none⟩ = some (.int .i64 0) ∧ wr.cell? ⟨w.heap.size, 2, none⟩ = some (.int .i64 0) ∧ wr.cell? ⟨w.heap.size, 3, none⟩ = some (.int .i64 0) ∧ wr.cell? ⟨w.heap.size, 4, none⟩ = some (.string ⟨#[]⟩) ∧ wr.cell? ⟨w.heap.size, 5, none⟩ = some (.string ⟨#[]⟩) ∧ wr.cell? ⟨w.heap.size, 6, none⟩ = some (.slice none 0 0) ∧ (∀ q, wr.frozen? ⟨w.heap.size, q, none⟩ = false) ∧ KidsIs wr (d + k + 1) (.slice ak lk ck) cu.ks Fk ∧ (∀ b ∈ Fk, b < w.heap.size ∨ w.heap.size + 1 + 1 < b) ∧ Below w.heap.size w wr ∧ w.heap.size + 1 + 1 < wr.heap.size) (fun i _ => es.length - (intOf i).toNat)
  case atStart =>
    refine ⟨0, conE ⟨2, 1, ⟨#[]⟩⟩, none, 0, 0, [], Nat.zero_le _, rfl, rfl, conE_wf ⟨wf_lit2, wf_lit1, Nat.zero_le _⟩, by show _ = some (Value.int .i64 1); go_simp, by show _ = some (Value.int .i64 0); go_simp, by show _ = some (Value.int .i64 2); go_simp, by show _ = some (Value.int .i64 1); go_simp, by show _ = some (Value.string ⟨#[]⟩); go_simp, by show _ = some (Value.string ⟨#[]⟩); go_simp, by show _ = some (Value.slice none 0 0); go_simp, fun q => by go_simp, by go_simp, by go_simp, by go_simp, by go_simp, by go_simp, by go_simp, by go_simp, fun q => by go_simp, nil_kids none 0 (Nat.zero_le _), (fun b hb => by cases hb), by repeat (first | (with_reducible exact Below.refl _ _) | (with_reducible refine Below.drew ?_) | (with_reducible refine Below.alloc ?_ ?hh _; case hh => first | (simp; done) | (simp; omega) | omega) | (with_reducible refine Below.setCell ?_ ?hh _; case hh => first | (simp; done) | (simp; omega) | omega) | refine bstep (by assumption) (by first | (simp; done) | (simp; omega) | omega) ?_), by first | (simp; done) | (simp; omega)⟩
  case round =>
    obtain ⟨k, cu, ak, lk, ck, Fk, hk, rfl, HC, hcw, p0, p1, p2, p3, p4, p5, p6, pf, r0, r1, r2, r3, r4, r5, r6, rf, hKk, hF, hb, hzb⟩ := hrel
    have hR1 : w.heap.size < wr.heap.size := by omega
    have hR2 : w.heap.size < wr.heap.size + 1 := by omega
    have hC2 : w.heap.size + 1 + 1 < wr.heap.size + 1 := by omega
    by_cases hlt : k < es.length
    · obtain ⟨rfl, hblt, _, hL⟩ := ha k hlt
      obtain ⟨x, g0, u0, hx, hg0, hxw, ⟨c0, c1, c2, c3, c4, c5⟩, c6, hKx, hbr⟩ := hL.at hG0 hblt hb hlt
      obtain ⟨a0, n0, rfl, _, _⟩ := hKx.shape
      have HX : Hid (es[k]? = some x) := hx
      have hxn : wtE x ≤ 1048576 := by have := wtE_mem (List.mem_of_getElem? hx); omega
      have hglt : ∀ b ∈ g0, b < w.heap.size := by
        obtain ⟨_, _, _, _, hK0⟩ := hL k x g0 hx hg0
        exact hK0.lt
      have hbC : b ≠ w.heap.size + 1 + 1 := by omega
      have hbR : b ≠ w.heap.size := by omega
      clear ha hL hx hg0
      by_cases hk0 : k = 0
      · subst hk0
        simp only [Nat.zero_mul, Nat.add_zero] at c0 c1 c2 c3 c4 c5 c6
        go_wp2
        refine ⟨⟨1, x, a0, x.ks.length, n0, g0, by omega, by simp, ?_, hxw, by go_simp, by go_simp, by go_simp, by go_simp, by go_simp, by go_simp, by go_simp, fun q => by go_simp, by go_simp, by go_simp, by go_simp, by go_simp, by go_simp, by go_simp, by go_simp, fun q => by go_simp, ?_, fun b hb => .inl (hglt b hb), ?_, by simp; omega⟩, by simp [intOf]; omega⟩
        · show x = chainE (es.take (0 + 1))
          rw [take_snoc' HX.out]; rfl
        · exact ((hKx.up (by omega)).set7 (fun b hb => by have := hglt b hb; omega) _ _ _ _ _ _ _).below ((Below.refl _ _).alloc (Nat.le_refl _) _)
        · exact (set7_below hb (by omega) _ _ _ _ _ _ _).alloc (by simp; omega) _
      · have hke : decide ((k : Int) = 0) = false := by simp; omega
        have hkb : ((k : Int) == 0) = false := by simp; omega
        go_wp2
        refine ⟨⟨k + 1, andE cu x, some ⟨wr.heap.size + 1, 0, none⟩, 2, 2, (wr.heap.size + 1) :: (Fk ++ g0), hlt, by simp, ?_, andE_wf _ _, by show _ = some (Value.int .i64 2); go_simp, by show _ = some (Value.int .i64 0); go_simp, by show _ = some (Value.int .i64 0); go_simp, by show _ = some (Value.int .i64 0); go_simp, by show _ = some (Value.string ⟨#[]⟩); go_simp, by show _ = some (Value.string ⟨#[97, 110, 100]⟩); go_simp, by show _ = some (Value.slice (some ⟨wr.heap.size + 1, 0, none⟩) 2 2); go_simp, fun q => by go_simp, by go_simp, by go_simp, by go_simp, by go_simp, by go_simp, by go_simp, by go_simp, fun q => by go_simp, ?_, ?_, ?_, by simp; omega⟩, by simp [intOf]; omega⟩
        · show andE cu x = chainE (es.take (k + 1))
          rw [take_snoc' HX.out, chain_snoc (by intro h; have := congrArg List.length h; rw [List.length_take, List.length_nil] at this; omega), HC.out]
        · have hP := pair_kids (w := (set7 wr (w.heap.size + 1 + 1) (.int .i64 2) (.int .i64 0) (.int .i64 0) (.int .i64 0) (.string ⟨#[]⟩) (.string ⟨#[97, 110, 100]⟩) (.slice (some ⟨wr.heap.size + 1, 0, none⟩) 2 2)).alloc (.cells #[.int .i64 x.k, .int .i64 x.n, .int .i64 x.v.k, .int .i64 x.v.n, .string x.v.s, .string x.p, .slice a0 x.ks.length n0] 33)) (D := d + k + 1) ((hKk.set7 (fun b hb => by rcases hF b hb with h | h <;> omega) _ _ _ _ _ _ _).below ((Below.refl _ _).alloc (Nat.le_refl _) _)) (((hKx.up (by omega)).set7 (fun b hb => by have := hglt b hb; omega) _ _ _ _ _ _ _).below ((Below.refl _ _).alloc (Nat.le_refl _) _)) hcw hxw
          simp only [World.size_alloc, set7_size] at hP
          exact hP.up (by omega)
        · intro b hb
          rcases List.mem_cons.1 hb with rfl | hb
          · right; omega
          · rcases List.mem_append.1 hb with hb | hb
            · exact hF b hb
            · exact .inl (hglt b hb)
        · exact ((set7_below hb (by omega) _ _ _ _ _ _ _).alloc (by simp; omega) _).alloc (by simp; omega) _
    · obtain rfl : k = es.length := by omega
      obtain rfl : cu = cc := by have := HC.out; rw [List.take_length] at this; rw [this]; exact hR.out
      clear HC ha hR
      have hlk : lk = cu.ks.length := by
        obtain ⟨_, _, e', _⟩ := hKk.shape
        injection e'
      subst hlk
      have hneF : ∀ b ∈ Fk, b ≠ w.heap.size := fun b hb => by rcases hF b hb with h | h <;> omega
      have hB : ∀ W, Below wr.heap.size wr W → Below w.heap.size w W := fun W hW => hb.trans (hW.mono (by omega))
      go_wp2_with fail
      refine wp_region_held_drew (S := (fun w' => (w'.cell? ⟨w.heap.size + 1 + 1, 0, none⟩ = some (.int .i64 cu.k) ∧ w'.cell? ⟨w.heap.size + 1 + 1, 1, none⟩ = some (.int .i64 cu.n) ∧ w'.cell? ⟨w.heap.size + 1 + 1, 2, none⟩ = some (.int .i64 cu.v.k) ∧ w'.cell? ⟨w.heap.size + 1 + 1, 3, none⟩ = some (.int .i64 cu.v.n) ∧ w'.cell? ⟨w.heap.size + 1 + 1, 4, none⟩ = some (.string cu.v.s) ∧ w'.cell? ⟨w.heap.size + 1 + 1, 5, none⟩ = some (.string cu.p) ∧ w'.cell? ⟨w.heap.size + 1 + 1, 6, none⟩ = some (.slice ak cu.ks.length ck)))) (by kernel_rfl) ?_ (fun hHeld => ?_)
      · exact ⟨p0, p1, p2, p3, p4, p5, p6⟩
      refine takeYes (i := 0) (d := 24) (v := ?_) rfl rfl (by kernel_rfl) (by kernel_rfl) (by kernel_rfl) (fun _ _ _ h => h) (by rfl) (by assumption) ?_ ?_
      rotate_left
      · intro w' hSw; obtain ⟨s0, s1, s2, s3, s4, s5, s6⟩ := hSw; go_simp; try exact rfl
      try simp only [List.setIfInBounds_toArray, List.set_cons_zero, List.set_cons_succ]
      refine takeYes (i := 1) (d := 25) (v := ?_) rfl rfl (by kernel_rfl) (by kernel_rfl) (by kernel_rfl) (fun _ _ _ h => h) (by rfl) (by assumption) ?_ ?_
      rotate_left
      · intro w' hSw; obtain ⟨s0, s1, s2, s3, s4, s5, s6⟩ := hSw; go_simp; try exact rfl
      try simp only [List.setIfInBounds_toArray, List.set_cons_zero, List.set_cons_succ]
      refine wpAnyH_ready (rs := [2]) (by kernel_rfl) (by simp) ?_
      refine AllReadyH.cons rfl (fun K hK => ?_) AllReadyH.nil
      go_simp
      go_at_call 51
      refine Calls.mono (implExpOk_any cu (.slice ak cu.ks.length ck) Fk _ _ hcw (hKk.below (by repeat (first | (with_reducible exact Below.refl _ _) | (with_reducible refine Below.drew ?_) | (with_reducible refine Below.alloc ?_ ?hh _; case hh => first | (simp; done) | (simp; omega) | omega) | (with_reducible refine Below.setCell ?_ ?hh _; case hh => first | (simp; done) | (simp; omega) | omega) | refine bstep (by assumption) (by first | (simp; done) | (simp; omega) | omega) ?_)))) ?_
      rintro y w2 ⟨rfl, hb2⟩
      have hz2 := hb2.size
      (try simp at hz2)
      have bel2 : Below wr.heap.size wr w2 := by repeat (first | (with_reducible exact Below.refl _ _) | (with_reducible refine Below.drew ?_) | (with_reducible refine Below.alloc ?_ ?hh _; case hh => first | (simp; done) | (simp; omega) | omega) | (with_reducible refine Below.setCell ?_ ?hh _; case hh => first | (simp; done) | (simp; omega) | omega) | refine bstep (by assumption) (by first | (simp; done) | (simp; omega) | omega) ?_)
      have hbw2 := hB w2 bel2
      have hK2 := hKk.below bel2
      have hD1 : w.heap.size < w2.heap.size := by omega
      have hD2 : w.heap.size + 1 + 1 < w2.heap.size := by omega
      have q0 := ((bcell bel2).1 _ _ hR1).trans r0
      have t0 := ((bcell bel2).1 _ _ hzb).trans p0
      have q1 := ((bcell bel2).1 _ _ hR1).trans r1
      have t1 := ((bcell bel2).1 _ _ hzb).trans p1
      have q2 := ((bcell bel2).1 _ _ hR1).trans r2
      have t2 := ((bcell bel2).1 _ _ hzb).trans p2
      have q3 := ((bcell bel2).1 _ _ hR1).trans r3
      have t3 := ((bcell bel2).1 _ _ hzb).trans p3
      have q4 := ((bcell bel2).1 _ _ hR1).trans r4
      have t4 := ((bcell bel2).1 _ _ hzb).trans p4
      have q5 := ((bcell bel2).1 _ _ hR1).trans r5
      have t5 := ((bcell bel2).1 _ _ hzb).trans p5
      have q6 := ((bcell bel2).1 _ _ hR1).trans r6
      have t6 := ((bcell bel2).1 _ _ hzb).trans p6
      have qf : ∀ q, w2.frozen? ⟨w.heap.size, q, none⟩ = false := fun q => ((bcell bel2).2 _ q hR1).trans (rf q)
      try go_wp2_with fail
      refine hK.out _ _ ?_ (fun hHeld2 => ?_)
      · exact ⟨t0, t1, t2, t3, t4, t5, t6⟩
      clear hK hb2 p0 p1 p2 p3 p4 p5 p6 r0 r1 r2 r3 r4 r5 r6 pf rf hKk hB
      refine wpAnyH_ready (rs := [3]) (by kernel_rfl) (by simp) ?_
      refine AllReadyH.cons rfl (fun K hK => ?_) AllReadyH.nil
      go_simp
      refine hK.out _ _ ?_ (fun hHeld3 => ?_)
      · refine ⟨?_, ?_, ?_, ?_, ?_, ?_, ?_⟩ <;> go_simp
      clear hK
      refine takeYes (i := 4) (d := 3) (v := ?_) rfl rfl (by kernel_rfl) (by kernel_rfl) (by kernel_rfl) (fun _ _ _ h => h) (by rfl) (by assumption) ?_ ?_
      rotate_left
      · intro w' hSw; go_simp; try exact rfl
      try simp only [List.setIfInBounds_toArray, List.set_cons_zero, List.set_cons_succ]
      refine wpAnyH_done (by kernel_rfl) ?_ _
      clear hHeld hHeld2 hHeld3
      go_wp2
      refine bodyPost_ret (v := .tuple #[(.agg #[.int .i64 cu.k, .int .i64 cu.n, .int .i64 cu.v.k, .int .i64 cu.v.n, .string cu.v.s, .string cu.p, (.slice ak cu.ks.length ck)]), .bool (okE 13 cu)]) (by simp [results, Try.results44, go_sem, *]) rfl ⟨⟨_, Fk, rfl, hcw, hK2.keep (by simp) fun b hb => ?_⟩, ?_⟩
      · iterate 7 rw [Below.heap_setCell _ _ _ _ (hneF b hb)]
      · repeat (first | (with_reducible exact hbw2) | (with_reducible refine Below.setCell ?_ ?hh _; case hh => (simp; try omega)))
end
set_option maxHeartbeats 2000000 in
set_option maxRecDepth 100000 in
theorem implAndAll_any (d : Nat) (v : Value) (es : List E7) (F : List Nat) (w : World) (hw : ∀ e ∈ es, e.wf) (hk : KidsIs w (d + 1) v es F) (hn : es.length + wtEs es ≤ 1048576) (r : E7) (hR : Hid (ansAnd es = r)) :
    Calls Try.prog 27 #[v] w fun x w' => (∃ D u F', x = .returned (.agg #[.int .i64 r.k, .int .i64 r.n, .int .i64 r.v.k, .int .i64 r.v.n, .string r.v.s, .string r.p, u]) ∧ KidsIs w' (D + 1) u r.ks F' ∧ Own w' w.heap.size F') ∧ Below w.heap.size w w' := by
  obtain ⟨a, c, rfl, hl, hc⟩ := hk.shape
  obtain ⟨cu, HC⟩ : ∃ cu, Hid (chainE es = cu) := ⟨_, rfl⟩
  have hn5 : okE 13 cu = true → wtE cu ≤ 2097152 := fun h => by
    have h1 := ans_wt hn
    unfold ansAnd at h1
    rw [HC.out, if_pos h] at h1
    omega
  have hA : okE 13 cu = true → cu = r := fun h => by
    have h1 := hR.out
    unfold ansAnd at h1
    rw [HC.out, if_pos h] at h1
    exact h1
  have hB : okE 13 cu = false → r = conE noV := fun h => by
    have h1 := hR.out
    unfold ansAnd at h1
    rw [HC.out, if_neg (by rw [h]; simp)] at h1
    exact h1.symm
  go_enter Try.func27, Try.ntmps27
  go_wp2_with fail
  refine Calls.mono (chainOf_any d (.slice a es.length c) es F _ hw (hk.below ?hb) hn cu HC) ?_
  case hb => repeat (first | (with_reducible exact Below.refl _ _) | (with_reducible refine Below.drew ?_) | (with_reducible refine Below.alloc ?_ ?hh _; case hh => first | (simp; done) | (simp; omega) | omega) | (with_reducible refine Below.setCell ?_ ?hh _; case hh => first | (simp; done) | (simp; omega) | omega) | refine bstep (by assumption) (by first | (simp; done) | (simp; omega) | omega) ?_)
  rintro x w1 ⟨⟨u1, F1, rfl, hcw, hK1⟩, hb1⟩
  obtain ⟨a1, c1, rfl, _, _⟩ := hK1.shape
  have hz1 := hb1.size
  simp only [World.size_alloc] at hz1
  have hbw1 : Below w.heap.size w w1 := by repeat (first | (with_reducible exact Below.refl _ _) | (with_reducible refine Below.drew ?_) | (with_reducible refine Below.alloc ?_ ?hh _; case hh => first | (simp; done) | (simp; omega) | omega) | (with_reducible refine Below.setCell ?_ ?hh _; case hh => first | (simp; done) | (simp; omega) | omega) | refine bstep (by assumption) (by first | (simp; done) | (simp; omega) | omega) ?_)
  have hD1 : w.heap.size < w1.heap.size := by omega
  have q0 : w1.cell? ⟨w.heap.size, 0, none⟩ = some (.int .i64 0) := cell_later hb1 (by go_simp)
  have q1 : w1.cell? ⟨w.heap.size, 1, none⟩ = some (.int .i64 0) := cell_later hb1 (by go_simp)
  have q2 : w1.cell? ⟨w.heap.size, 2, none⟩ = some (.int .i64 0) := cell_later hb1 (by go_simp)
  have q3 : w1.cell? ⟨w.heap.size, 3, none⟩ = some (.int .i64 0) := cell_later hb1 (by go_simp)
  have q4 : w1.cell? ⟨w.heap.size, 4, none⟩ = some (.string ⟨#[]⟩) := cell_later hb1 (by go_simp)
  have q5 : w1.cell? ⟨w.heap.size, 5, none⟩ = some (.string ⟨#[]⟩) := cell_later hb1 (by go_simp)
  have q6 : w1.cell? ⟨w.heap.size, 6, none⟩ = some (.slice none 0 0) := cell_later hb1 (by go_simp)
  have qf : ∀ q, w1.frozen? ⟨w.heap.size, q, none⟩ = false := fun q => ((bcell hb1).2 _ q (by simp)).trans (by go_simp)
  clear hb1 hk hR HC
  obtain ⟨ok, HO⟩ : ∃ ok, Hid (okE 13 cu = ok) := ⟨_, rfl⟩
  rw [HO.out]
  go_upto_region 2 with fail
  have hb2 : Below w1.heap.size w1 (w1.alloc (.cells #[.int .i64 cu.k, .int .i64 cu.n, .int .i64 cu.v.k, .int .i64 cu.v.n, .string cu.v.s, .string cu.p, .slice a1 cu.ks.length c1] 33)) := (Below.refl _ _).alloc (Nat.le_refl _) _
  have x0 : (w1.alloc (.cells #[.int .i64 cu.k, .int .i64 cu.n, .int .i64 cu.v.k, .int .i64 cu.v.n, .string cu.v.s, .string cu.p, .slice a1 cu.ks.length c1] 33)).cell? ⟨w1.heap.size, 0, none⟩ = some (.int .i64 cu.k) := by go_simp
  replace q0 := ((bcell hb2).1 _ _ hD1).trans q0
  have x1 : (w1.alloc (.cells #[.int .i64 cu.k, .int .i64 cu.n, .int .i64 cu.v.k, .int .i64 cu.v.n, .string cu.v.s, .string cu.p, .slice a1 cu.ks.length c1] 33)).cell? ⟨w1.heap.size, 1, none⟩ = some (.int .i64 cu.n) := by go_simp
  replace q1 := ((bcell hb2).1 _ _ hD1).trans q1
  have x2 : (w1.alloc (.cells #[.int .i64 cu.k, .int .i64 cu.n, .int .i64 cu.v.k, .int .i64 cu.v.n, .string cu.v.s, .string cu.p, .slice a1 cu.ks.length c1] 33)).cell? ⟨w1.heap.size, 2, none⟩ = some (.int .i64 cu.v.k) := by go_simp
  replace q2 := ((bcell hb2).1 _ _ hD1).trans q2
  have x3 : (w1.alloc (.cells #[.int .i64 cu.k, .int .i64 cu.n, .int .i64 cu.v.k, .int .i64 cu.v.n, .string cu.v.s, .string cu.p, .slice a1 cu.ks.length c1] 33)).cell? ⟨w1.heap.size, 3, none⟩ = some (.int .i64 cu.v.n) := by go_simp
  replace q3 := ((bcell hb2).1 _ _ hD1).trans q3
  have x4 : (w1.alloc (.cells #[.int .i64 cu.k, .int .i64 cu.n, .int .i64 cu.v.k, .int .i64 cu.v.n, .string cu.v.s, .string cu.p, .slice a1 cu.ks.length c1] 33)).cell? ⟨w1.heap.size, 4, none⟩ = some (.string cu.v.s) := by go_simp
  replace q4 := ((bcell hb2).1 _ _ hD1).trans q4
  have x5 : (w1.alloc (.cells #[.int .i64 cu.k, .int .i64 cu.n, .int .i64 cu.v.k, .int .i64 cu.v.n, .string cu.v.s, .string cu.p, .slice a1 cu.ks.length c1] 33)).cell? ⟨w1.heap.size, 5, none⟩ = some (.string cu.p) := by go_simp
  replace q5 := ((bcell hb2).1 _ _ hD1).trans q5
  have x6 : (w1.alloc (.cells #[.int .i64 cu.k, .int .i64 cu.n, .int .i64 cu.v.k, .int .i64 cu.v.n, .string cu.v.s, .string cu.p, .slice a1 cu.ks.length c1] 33)).cell? ⟨w1.heap.size, 6, none⟩ = some (.slice a1 cu.ks.length c1) := by go_simp
  replace q6 := ((bcell hb2).1 _ _ hD1).trans q6
  replace qf : ∀ q, (w1.alloc (.cells #[.int .i64 cu.k, .int .i64 cu.n, .int .i64 cu.v.k, .int .i64 cu.v.n, .string cu.v.s, .string cu.p, .slice a1 cu.ks.length c1] 33)).frozen? ⟨w.heap.size, q, none⟩ = false := fun q => ((bcell hb2).2 _ q hD1).trans (qf q)
  have hz2 : (w1.alloc (.cells #[.int .i64 cu.k, .int .i64 cu.n, .int .i64 cu.v.k, .int .i64 cu.v.n, .string cu.v.s, .string cu.p, .slice a1 cu.ks.length c1] 33)).heap.size = w1.heap.size + 1 := by simp
  generalize (w1.alloc (.cells #[.int .i64 cu.k, .int .i64 cu.n, .int .i64 cu.v.k, .int .i64 cu.v.n, .string cu.v.s, .string cu.p, .slice a1 cu.ks.length c1] 33)) = w2 at *
  have hbw2 : Below w.heap.size w w2 := hbw1.trans (hb2.mono hbw1.size)
  have hK2 := hK1.below hb2
  have hD2 : w.heap.size < w2.heap.size := by omega
  have hx2 : w1.heap.size < w2.heap.size := by omega
  clear hb2 hbw1 hK1 hl hc
  cases ok with
  | false =>
    have Hr : Hid (r = conE noV) := hB HO.out
    clear hn5 hA hB HO hK2 hcw x0 x1 x2 x3 x4 x5 x6 hw hn
    go_wp2
    refine bodyPost_ret (v := .agg #[.int .i64 1, .int .i64 0, .int .i64 0, .int .i64 0, .string ⟨#[]⟩, .string ⟨#[]⟩, .slice none 0 0]) (by simp [results, Try.results27, go_sem, *]) rfl ⟨⟨0, .slice none 0 0, [], by rw [Hr.out]; rfl, by rw [Hr.out]; exact nil_kids none 0 (Nat.zero_le _), by simp [Own]⟩, ?_⟩
    repeat (first | (with_reducible exact hbw2) | (with_reducible refine Below.setCell ?_ ?hh _; case hh => (simp; try omega)))
  | true =>
    obtain rfl := hA HO.out
    have hn6 := hn5 HO.out
    have hcn : cntE cu ≤ 8191 := by have := cnt_ok 13 cu HO.out; omega
    clear hn5 hA hB HO hw hn
    go_wp2_with fail
    refine Calls.mono (copyExp_any (d + es.length) cu (.slice a1 cu.ks.length c1) F1 w2 hcw hK2 (.inr hcn) hn6) ?_
    rintro y w3 ⟨⟨u3', F3, rfl, hK3, hO3⟩, bel3⟩
    obtain ⟨a3, n3, rfl, _, _⟩ := hK3.shape
    have hz3 := bel3.size
    have hbw3 : Below w.heap.size w w3 := hbw2.trans (bel3.mono hbw2.size)
    have hD3 : w.heap.size < w3.heap.size := by omega
    have s0 := ((bcell bel3).1 _ _ hD2).trans q0
    have s1 := ((bcell bel3).1 _ _ hD2).trans q1
    have s2 := ((bcell bel3).1 _ _ hD2).trans q2
    have s3 := ((bcell bel3).1 _ _ hD2).trans q3
    have s4 := ((bcell bel3).1 _ _ hD2).trans q4
    have s5 := ((bcell bel3).1 _ _ hD2).trans q5
    have s6 := ((bcell bel3).1 _ _ hD2).trans q6
    have sf : ∀ q, w3.frozen? ⟨w.heap.size, q, none⟩ = false := fun q => ((bcell bel3).2 _ q hD2).trans (qf q)
    have hne : ∀ b ∈ F3, b ≠ w.heap.size := fun b hb => by have := (hO3.2 b hb).1; omega
    clear hK2 q0 q1 q2 q3 q4 q5 q6 qf bel3 x0 x1 x2 x3 x4 x5 x6 hcw hn6 hcn
    go_wp2
    refine bodyPost_ret (v := .agg #[.int .i64 cu.k, .int .i64 cu.n, .int .i64 cu.v.k, .int .i64 cu.v.n, .string cu.v.s, .string cu.p, .slice a3 cu.ks.length n3]) (by simp [results, Try.results27, go_sem, *]) rfl ⟨⟨_, _, F3, rfl, hK3.keep (by simp) fun b hb => ?_, Own.keep ⟨hO3.1, fun b hb => ⟨by have := (hO3.2 b hb).1; omega, (hO3.2 b hb).2⟩⟩ fun b hb => ?_⟩, ?_⟩
    · iterate 7 rw [Below.heap_setCell _ _ _ _ (hne b hb)]
    · iterate 7 rw [Below.heap_setCell _ _ _ _ (hne b hb)]
    · repeat (first | (with_reducible exact hbw3) | (with_reducible refine Below.setCell ?_ ?hh _; case hh => (simp; try omega)))
end Go.Proofs.Ytpkebpbflfhbnaa
