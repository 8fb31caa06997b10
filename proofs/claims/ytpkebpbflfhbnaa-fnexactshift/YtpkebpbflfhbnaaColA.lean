/- Own text. The contract of spec.l03Add. -/
import Derived.Test.YtpkebpbflfhbnaaColP
import Derived.Test.YtpkebpbflfhbnaaTake
import Derived.Handy
import Derived.Deep.DrawnRows
import Derived.Deep.RegionHeld3
import Derived.Laws.AppendOwn
namespace Go.Proofs.Ytpkebpbflfhbnaa
open Go.RowKit Go.Deep Go.ChangeShapes Go.WideShapes
set_option linter.unusedVariables false
theorem Try.infoInt : (Try.prog.info? 3).map (fun i => (i.zero, i.size, i.bytes)) = some (some (.int .i64 0), 1, 8) := by kernel_rfl
section
variable {P : Program} (w : World)
/-- append at a step of a region that draws its order, of no elements too. -/
theorem step_append_own {ops : Array Oper} {o : Oper} {a : Act} {K : Act → World → Prop} {Q : Exit → Act → World → Prop} {E : Prop} (hgd : o.guard = none) (s x : Operand) (t : TypeId)
    (ho : o.op = .call { callee := .builtin .append, args := #[s, x], argTypes := #[t, t] })
    (base : Nat) (e : TypeId) (i : TypeInfo) (z : Value) (size bytes : Nat) (ht : P.underlying t = some (.slice e)) (hi : P.info? e = some i) (hz : i.zero = some z)
    (hsize : i.size = size) (hby : i.bytes = bytes) (hzs : z.cells.size = size) (hsz : 0 < size)
    (v : Value) (n : Nat) (xs : List Value) (hs : a.eval s = v) (hown : w.ownsRow base e size v n xs)
    (ad : Addr) (m c : Nat) (news : List Value) (hx : a.eval x = .slice (some ad) m c) (hl : news.length = m * size) (hnews : ∀ j u, news[j]? = some u → w.cell? (ad.add j) = some u) (h1 : ∀ u ∈ news, u.oneCell' = true)
    (h63 : n + m ≤ maxLen) (hbytes : (n + m) * bytes ≤ 140737488355328) (hbase : base ≤ w.heap.size)
    (h : ∀ v' w', w'.ownsRow base e size v' (n + m) (xs ++ news) → w.grownBy w' v.ownBlock → K (a.put o.dst v') w') :
    if Region.wanted o (yielded ops a.tmps) = true then Oper.wp P o a w K Q else E := by
  have hw : Region.wanted o (yielded ops a.tmps) = true := by simp [Region.wanted, hgd]
  rw [if_pos hw]
  exact wp_append_own w s x t ho base e i z size bytes ht hi hz hsize hby hzs hsz v n xs hs hown ad m c news hx hl hnews h1 h63 hbytes hbase fun v' w' h2 h3 _ => h v' w' h2 h3
end
/-- the slice value v has the numbers ns. -/
def IntsI (w : World) (v : Value) (ns : List Int) : Prop :=
  ∃ b o c, v = .slice (some ⟨b, o, none⟩) ns.length c ∧ ns.length ≤ c ∧ c ≤ maxLen ∧ b < w.heap.size ∧ ∀ i n, ns[i]? = some n → w.cell? ⟨b, o + i, none⟩ = some (.int .i64 n)
theorem IntsI.below {w w' : World} {v : Value} {ns : List Int} (h : IntsI w v ns) (hb : Below w.heap.size w w') : IntsI w' v ns := by
  obtain ⟨b, o, c, hv, hl, hc, hlt, hcell⟩ := h
  exact ⟨b, o, c, hv, hl, hc, Nat.lt_of_lt_of_le hlt hb.size, fun i n hn => ((bcell hb).1 _ _ hlt).trans (hcell i n hn)⟩
def ints (ns : List Int) : List Value := ns.map (Value.int .i64)
theorem ints_one (ns : List Int) : ∀ u ∈ ints ns, u.oneCell' = true := by
  intro u hu
  obtain ⟨n, _, rfl⟩ := List.mem_map.1 hu
  rfl
theorem ints_none {w : World} {N H : Nat} (hH : w.heap.size = H) (hN : N ≤ H) {t : TypeId} : (w.alloc (.cells #[] t)).ownsRow N t 1 (.slice (some ⟨H, 0, none⟩) 0 0) 0 [] := by
  subst hH
  exact ⟨by simp, .inr ⟨w.heap.size, 0, #[], rfl, hN, heap_alloc_new w _, Nat.le_refl _, by simp, by simp, by simp⟩⟩
theorem ints_own {w : World} {N n : Nat} {v : Value} {ns : List Int} {t : TypeId} (h : w.ownsRow N t 1 v n (ints ns)) (hn : 0 < ns.length) : IntsI w v ns := by
  have hlt := ownsE_lt h
  obtain ⟨hl, ho⟩ := h
  have hl : ns.length = n := by simpa [ints] using hl
  subst hl
  rcases ho with ⟨_, h0⟩ | ⟨g, cap, cur, rfl, hg, hc, hn', hm, hs, ht⟩
  · omega
  refine ⟨g, 0, cap, rfl, hn', hm, (hlt g rfl).2, fun i n hi => ?_⟩
  have hi' : i < ns.length := (List.getElem?_eq_some_iff.1 hi).1
  have hu : (ints ns)[i]? = some (.int .i64 n) := by simp [ints, hi]
  simp only [World.cell?, hc]
  rw [← ht, List.getElem?_take, if_pos (by omega), Array.getElem?_toList] at hu
  simpa using hu
set_option maxHeartbeats 4000000 in
set_option maxRecDepth 100000 in
theorem l03Add_any (v : Value) (ns : List Int) (x : Int) (w : World) (h : IntsI w v ns) (hn : ns.length ≤ 4194304) :
    Calls Try.prog 29 #[v, .int .i64 x] w fun e w' => (∃ v', e = .returned v' ∧ IntsI w' v' (addL ns x)) ∧ Below w.heap.size w w' := by
  obtain ⟨i0, hi, hz0, hz1, hz2⟩ := info_parts Try.infoInt
  have hI := h
  obtain ⟨b, o, c, rfl, hl, hc, hlt, hcell⟩ := h
  unfold maxLen at hc
  go_enter Try.func29, Try.ntmps29
  go_wp2
  go_loopw [5] (fun i wr => ∃ k : Nat, k ≤ ns.length ∧ i = .int .i64 k ∧ wr = w ∧ ∀ i n, i < k → ns[i]? = some n → n < x) (fun i _ => ns.length - (intOf i).toNat)
  case atStart => exact ⟨0, Nat.zero_le _, rfl, rfl, fun i n hi => by omega⟩
  case round =>
    obtain ⟨k, hk, rfl, hwr, hless⟩ := hrel
    replace hwr := hwr.symm
    subst hwr
    by_cases hin : k < ns.length ∧ ∀ n, ns[k]? = some n → n < x
    · obtain ⟨hkl, hkx⟩ := hin
      obtain ⟨m, hm⟩ : ∃ m, ns[k]? = some m := ⟨ns[k], by simp [hkl]⟩
      have hc0 := hcell k m hm
      have hmx := hkx m hm
      have HL : Hid (∀ i n, i < k + 1 → ns[i]? = some n → n < x) := fun i n hi hn => by
        by_cases e : i = k
        · subst e; exact hkx n hn
        · exact hless i n (by omega) hn
      clear hless hkx hm hcell hI
      go_wp2
      exact ⟨⟨k + 1, hkl, by simp, by first | rfl | trivial, HL.out⟩, by simp [intOf]; omega⟩
    by_cases hkl : k < ns.length
    · obtain ⟨m, hm⟩ : ∃ m, ns[k]? = some m := ⟨ns[k], by simp [hkl]⟩
      have hc0 := hcell k m hm
      have hmx : ¬ m < x := fun h => hin ⟨hkl, fun n hn => by rw [hm] at hn; cases hn; exact h⟩
      by_cases hmx2 : m = x
      · subst hmx2
        have HI : Hid (IntsI w (.slice (some ⟨b, o, none⟩) ns.length c) (addL ns m)) := by
          show IntsI _ _ _
          rw [addL_same hless hm]; exact hI
        clear hless hin hm hcell hI
        go_wp2
        refine bodyPost_ret (v := .slice (some ⟨b, o, none⟩) ns.length c) (by simp [results, Try.results29, go_sem]) rfl ⟨⟨_, rfl, HI.out⟩, Below.refl _ _⟩
      · have hmore : ∀ n, ns[k]? = some n → x < n := fun n hn => by rw [hm] at hn; cases hn; omega
        have hcellT : ∀ W, Below w.heap.size w W → ∀ j u, (ints (ns.take k))[j]? = some u → W.cell? ⟨b, o + j, none⟩ = some u := by
          intro W hW j u hu
          have hj : j < k := by have := (List.getElem?_eq_some_iff.1 hu).1; simp [ints] at this; omega
          have hjl : j < ns.length := by omega
          have e : u = Value.int .i64 ns[j] := by simp [ints, hj, hjl] at hu; exact hu.symm
          rw [e]
          exact ((bcell hW).1 _ _ hlt).trans (hcell j ns[j] (by simp))
        obtain ⟨ad, hif, hcellD⟩ : ∃ ad : Addr, (if c = k then some (⟨b, o, none⟩ : Addr) else some ⟨b, o + k, none⟩) = some ad ∧ ∀ W, Below w.heap.size w W → ∀ j u, (ints (ns.drop k))[j]? = some u → W.cell? (ad.add j) = some u := by
          by_cases hck : c = k
          · refine ⟨_, if_pos hck, fun W hW j u hu => ?_⟩
            have := (List.getElem?_eq_some_iff.1 hu).1
            simp [ints] at this
            omega
          · refine ⟨_, if_neg hck, fun W hW j u hu => ?_⟩
            have hjl : k + j < ns.length := by have := (List.getElem?_eq_some_iff.1 hu).1; simp [ints] at this; omega
            have e : u = Value.int .i64 ns[k + j] := by simp [ints, hjl] at hu; exact hu.symm
            rw [e, add_plain, Nat.add_assoc]
            exact ((bcell hW).1 _ _ hlt).trans (hcell (k + j) ns[k + j] (by simp))
        have hkc : k ≤ c := by omega
        clear hcell
        have hmd : decide (m < x) = false := decide_eq_false hmx
        have hme : (m == x) = false := by simpa using hmx2
        have hme' : decide (m = x) = false := decide_eq_false hmx2
        clear hin hm hI
        go_wp2_with fail
        refine wp_region_held_drew (S := fun _ => True) (by kernel_rfl) ?_ (fun hHeld => ?_)
        · trivial
        refine takeYes (i := 1) (d := 34) (v := ?_) rfl rfl (by kernel_rfl) (by kernel_rfl) (by kernel_rfl) (fun _ _ _ h => h) (by rfl) (by trivial) ?_ ?_
        rotate_left
        · intro w' _; go_simp; try exact rfl
        try simp only [List.setIfInBounds_toArray, List.set_cons_zero, List.set_cons_succ]
        refine takeYes (i := 2) (d := 35) (v := ?_) rfl rfl (by kernel_rfl) (by kernel_rfl) (by kernel_rfl) (fun _ _ _ h => h) (by rfl) (by trivial) ?_ ?_
        rotate_left
        · intro w' _; go_simp; try exact rfl
        try simp only [List.setIfInBounds_toArray, List.set_cons_zero, List.set_cons_succ]
        refine takeYes (i := 3) (d := 36) (v := ?_) rfl rfl (by kernel_rfl) (by kernel_rfl) (by kernel_rfl) (fun _ _ _ h => h) (by rfl) (by trivial) ?_ ?_
        rotate_left
        · intro w' _; go_simp; try exact rfl
        try simp only [List.setIfInBounds_toArray, List.set_cons_zero, List.set_cons_succ]
        refine takeYes (i := 5) (d := 38) (v := ?_) rfl rfl (by kernel_rfl) (by kernel_rfl) (by kernel_rfl) (fun _ _ _ h => h) (by rfl) (by trivial) ?_ ?_
        rotate_left
        · intro w' _; go_simp; try exact rfl
        try simp only [List.setIfInBounds_toArray, List.set_cons_zero, List.set_cons_succ]
        refine takeYes (i := 8) (d := 41) (v := ?_) rfl rfl (by kernel_rfl) (by kernel_rfl) (by kernel_rfl) (fun _ _ _ h => h) (by rfl) (by trivial) ?_ ?_
        rotate_left
        · intro w' _; go_simp; try exact rfl
        try simp only [List.setIfInBounds_toArray, List.set_cons_zero, List.set_cons_succ]
        refine takeYes (i := 9) (d := 42) (v := ?_) rfl rfl (by kernel_rfl) (by kernel_rfl) (by kernel_rfl) (fun _ _ _ h => h) (by rfl) (by trivial) ?_ ?_
        rotate_left
        · intro w' _; go_simp; try exact rfl
        try simp only [List.setIfInBounds_toArray, List.set_cons_zero, List.set_cons_succ]
        refine takeYes (i := 10) (d := 43) (v := ?_) rfl rfl (by kernel_rfl) (by kernel_rfl) (by kernel_rfl) (fun _ _ _ h => h) (by rfl) (by trivial) ?_ ?_
        rotate_left
        · intro w' _; go_simp; try exact rfl
        try simp only [List.setIfInBounds_toArray, List.set_cons_zero, List.set_cons_succ]
        refine wpAnyH_ready (rs := [0, 6]) (by kernel_rfl) (by simp) ?_
        refine AllReadyH.cons rfl (fun K hK => ?_) (AllReadyH.cons rfl (fun K hK => ?_) AllReadyH.nil)
        · go_simp
          refine hK.out _ _ ?_ (fun hHeld0 => ?_)
          · trivial
          clear hK hHeld0
          try simp only [List.setIfInBounds_toArray, List.set_cons_zero, List.set_cons_succ]
          refine wpAnyH_ready (rs := [4, 6]) (by kernel_rfl) (by simp) ?_
          refine AllReadyH.cons rfl (fun K hK => ?_) (AllReadyH.cons rfl (fun K hK => ?_) AllReadyH.nil)
          · have hO33 : (w.drew.alloc (.cells #[] 3)).ownsRow w.heap.size 3 1 (.slice (some ⟨w.heap.size, 0, none⟩) 0 0) 0 [] := ints_none rfl (Nat.le_refl _)
            have hBW : Below w.heap.size w (w.drew.alloc (.cells #[] 3)) := by repeat (first | (with_reducible exact Below.refl _ _) | (with_reducible refine Below.drew ?_) | (with_reducible refine Below.alloc ?_ ?hh _; case hh => first | (simp; done) | (simp; omega) | omega) | (with_reducible refine Below.setCell ?_ ?hh _; case hh => first | (simp; done) | (simp; omega) | omega) | refine bstep (by assumption) (by first | (simp; done) | (simp; omega) | omega) ?_)
            refine step_append_own _ (by rfl) _ _ 28 (by rfl) w.heap.size 3 i0 _ 1 8 Try.underlying28 hi hz0 hz1 hz2 rfl (by omega) (.slice (some ⟨w.heap.size, 0, none⟩) 0 0) 0 [] (by rfl) hO33 ⟨b, o, none⟩ k c (ints (ns.take k)) (by rfl) (by simp [ints]; omega) (fun j u hu => by rw [add_plain]; exact hcellT _ hBW j u hu) (ints_one _) (by unfold maxLen; omega) (by omega) (by simp; try omega) ?_
            intro v4 w4 hO4 hG4
            have hz4 := hG4.size
            (try simp at hz4)
            have hB4 : Below w.heap.size w w4 := hBW.grown hG4 (by simp; try omega) (fun q hq => by simp [Value.ownBlock] at hq; omega)
            refine hK.out _ _ ?_ (fun hHeld4 => ?_)
            · trivial
            clear hK hHeld4
            try simp only [List.setIfInBounds_toArray, List.set_cons_zero, List.set_cons_succ]
            refine wpAnyH_ready (rs := [6]) (by kernel_rfl) (by simp) ?_
            refine AllReadyH.cons rfl (fun K hK => ?_) AllReadyH.nil
            go_simp
            refine hK.out _ _ ?_ (fun hHeld6 => ?_)
            · trivial
            clear hK hHeld6
            try simp only [List.setIfInBounds_toArray, List.set_cons_zero, List.set_cons_succ]
            have hx4 : (w4.alloc (.cells #[.int .i64 x] 3)).cell? ⟨w4.heap.size, 0, none⟩ = some (.int .i64 x) := by go_simp
            replace hO4 := ownsE_keep (w' := w4.alloc (.cells #[.int .i64 x] 3)) hO4 fun q hq => Below.heap_alloc _ _ _ (ownsE_lt hO4 q hq).2
            replace hB4 : Below w.heap.size w (w4.alloc (.cells #[.int .i64 x] 3)) := hB4.alloc (by omega) _
            have hzz : (w4.alloc (.cells #[.int .i64 x] 3)).heap.size = w4.heap.size + 1 := by simp
            refine wpAnyH_ready (rs := [7]) (by kernel_rfl) (by simp) ?_
            refine AllReadyH.cons rfl (fun K hK => ?_) AllReadyH.nil
            refine step_append_own _ (by rfl) _ _ 28 (by rfl) w.heap.size 3 i0 _ 1 8 Try.underlying28 hi hz0 hz1 hz2 rfl (by omega) v4 (0 + k) ([] ++ ints (ns.take k)) (by rfl) hO4 ⟨w4.heap.size, 0, none⟩ 1 1 [.int .i64 x] (by rfl) (by rfl) (fun j u hu => by match j, hu with | 0, hu => simp at hu; subst hu; rw [add_plain]; exact hx4) (by simp [Value.oneCell']) (by unfold maxLen; omega) (by omega) (by omega) ?_
            intro v7 w7 hO7 hG7
            have hz7 := hG7.size
            have hB7 : Below w.heap.size w w7 := hB4.grown hG7 (by omega) (fun q hq => (ownsE_lt hO4 q hq).1)
            refine hK.out _ _ ?_ (fun hHeld7 => ?_)
            · trivial
            clear hK hHeld7
            try simp only [List.setIfInBounds_toArray, List.set_cons_zero, List.set_cons_succ]
            refine wpAnyH_ready (rs := [11]) (by kernel_rfl) (by simp) ?_
            refine AllReadyH.cons rfl (fun K hK => ?_) AllReadyH.nil
            refine step_append_own _ (by rfl) _ _ 28 (by rfl) w.heap.size 3 i0 _ 1 8 Try.underlying28 hi hz0 hz1 hz2 rfl (by omega) v7 (0 + k + 1) ([] ++ ints (ns.take k) ++ [.int .i64 x]) (by rfl) hO7 ad (ns.length - k) (c - k) (ints (ns.drop k)) (by rfl) (by simp [ints]) (fun j u hu => hcellD _ hB7 j u hu) (ints_one _) (by unfold maxLen; omega) (by omega) (by omega) ?_
            intro v11 w11 hO11 hG11
            have hB11 : Below w.heap.size w w11 := hB7.grown hG11 (by omega) (fun q hq => (ownsE_lt hO7 q hq).1)
            refine hK.out _ _ ?_ (fun hHeld11 => ?_)
            · trivial
            clear hK hHeld11
            try simp only [List.setIfInBounds_toArray, List.set_cons_zero, List.set_cons_succ]
            refine takeYes (i := 12) (d := 4) (v := ?_) rfl rfl (by kernel_rfl) (by kernel_rfl) (by kernel_rfl) (fun _ _ _ h => h) (by rfl) (by trivial) ?_ ?_
            rotate_left
            · intro w' _; go_simp; try exact rfl
            try simp only [List.setIfInBounds_toArray, List.set_cons_zero, List.set_cons_succ]
            refine wpAnyH_done (by kernel_rfl) ?_ _
            have HI : Hid (IntsI w11 v11 (addL ns x)) := by
              show IntsI _ _ _
              rw [addL_new hk hless hmore]
              exact ints_own (N := w.heap.size) (by simpa [ints, List.map_append] using hO11) (by simp; omega)
            obtain ⟨b', o', c', e', _⟩ := HI.out
            subst e'
            clear hO4 hO7 hO11 hG4 hG7 hG11 hHeld
            go_wp2
            refine bodyPost_ret (v := .slice (some ⟨b', o', none⟩) (addL ns x).length c') (by simp [results, Try.results29, go_sem]) rfl ⟨⟨_, rfl, HI.out⟩, hB11⟩
          · go_simp
            refine hK.out _ _ ?_ (fun hHeld6 => ?_)
            · trivial
            clear hK hHeld6
            try simp only [List.setIfInBounds_toArray, List.set_cons_zero, List.set_cons_succ]
            have hO33 : ((w.drew.alloc (.cells #[] 3)).alloc (.cells #[.int .i64 x] 3)).ownsRow w.heap.size 3 1 (.slice (some ⟨w.heap.size, 0, none⟩) 0 0) 0 [] := ownsE_keep (ints_none rfl (Nat.le_refl _)) fun q hq => Below.heap_alloc _ _ _ (by simp [Value.ownBlock] at hq; subst hq; simp)
            have hBW : Below w.heap.size w ((w.drew.alloc (.cells #[] 3)).alloc (.cells #[.int .i64 x] 3)) := by repeat (first | (with_reducible exact Below.refl _ _) | (with_reducible refine Below.drew ?_) | (with_reducible refine Below.alloc ?_ ?hh _; case hh => first | (simp; done) | (simp; omega) | omega) | (with_reducible refine Below.setCell ?_ ?hh _; case hh => first | (simp; done) | (simp; omega) | omega) | refine bstep (by assumption) (by first | (simp; done) | (simp; omega) | omega) ?_)
            have hx39 : ((w.drew.alloc (.cells #[] 3)).alloc (.cells #[.int .i64 x] 3)).cell? ⟨w.heap.size + 1, 0, none⟩ = some (.int .i64 x) := by go_simp
            refine wpAnyH_ready (rs := [4]) (by kernel_rfl) (by simp) ?_
            refine AllReadyH.cons rfl (fun K hK => ?_) AllReadyH.nil
            refine step_append_own _ (by rfl) _ _ 28 (by rfl) w.heap.size 3 i0 _ 1 8 Try.underlying28 hi hz0 hz1 hz2 rfl (by omega) (.slice (some ⟨w.heap.size, 0, none⟩) 0 0) 0 [] (by rfl) hO33 ⟨b, o, none⟩ k c (ints (ns.take k)) (by rfl) (by simp [ints]; omega) (fun j u hu => by rw [add_plain]; exact hcellT _ hBW j u hu) (ints_one _) (by unfold maxLen; omega) (by omega) (by simp; try omega) ?_
            intro v4 w4 hO4 hG4
            have hz4 := hG4.size
            (try simp at hz4)
            have hB4 : Below w.heap.size w w4 := hBW.grown hG4 (by simp; try omega) (fun q hq => by simp [Value.ownBlock] at hq; omega)
            have hx4 : w4.cell? ⟨w.heap.size + 1, 0, none⟩ = some (.int .i64 x) := (hG4.cell_far _ (by simp; try omega) (by simp [Value.ownBlock]; try omega)).trans hx39
            have hlt4 := ownsE_lt hO4
            refine hK.out _ _ ?_ (fun hHeld4 => ?_)
            · trivial
            clear hK hHeld4
            try simp only [List.setIfInBounds_toArray, List.set_cons_zero, List.set_cons_succ]
            refine wpAnyH_ready (rs := [7]) (by kernel_rfl) (by simp) ?_
            refine AllReadyH.cons rfl (fun K hK => ?_) AllReadyH.nil
            refine step_append_own _ (by rfl) _ _ 28 (by rfl) w.heap.size 3 i0 _ 1 8 Try.underlying28 hi hz0 hz1 hz2 rfl (by omega) v4 (0 + k) ([] ++ ints (ns.take k)) (by rfl) hO4 ⟨w.heap.size + 1, 0, none⟩ 1 1 [.int .i64 x] (by rfl) (by rfl) (fun j u hu => by match j, hu with | 0, hu => simp at hu; subst hu; rw [add_plain]; exact hx4) (by simp [Value.oneCell']) (by unfold maxLen; omega) (by omega) (by omega) ?_
            intro v7 w7 hO7 hG7
            have hz7 := hG7.size
            have hB7 : Below w.heap.size w w7 := hB4.grown hG7 (by omega) (fun q hq => (ownsE_lt hO4 q hq).1)
            refine hK.out _ _ ?_ (fun hHeld7 => ?_)
            · trivial
            clear hK hHeld7
            try simp only [List.setIfInBounds_toArray, List.set_cons_zero, List.set_cons_succ]
            refine wpAnyH_ready (rs := [11]) (by kernel_rfl) (by simp) ?_
            refine AllReadyH.cons rfl (fun K hK => ?_) AllReadyH.nil
            refine step_append_own _ (by rfl) _ _ 28 (by rfl) w.heap.size 3 i0 _ 1 8 Try.underlying28 hi hz0 hz1 hz2 rfl (by omega) v7 (0 + k + 1) ([] ++ ints (ns.take k) ++ [.int .i64 x]) (by rfl) hO7 ad (ns.length - k) (c - k) (ints (ns.drop k)) (by rfl) (by simp [ints]) (fun j u hu => hcellD _ hB7 j u hu) (ints_one _) (by unfold maxLen; omega) (by omega) (by omega) ?_
            intro v11 w11 hO11 hG11
            have hB11 : Below w.heap.size w w11 := hB7.grown hG11 (by omega) (fun q hq => (ownsE_lt hO7 q hq).1)
            refine hK.out _ _ ?_ (fun hHeld11 => ?_)
            · trivial
            clear hK hHeld11
            try simp only [List.setIfInBounds_toArray, List.set_cons_zero, List.set_cons_succ]
            refine takeYes (i := 12) (d := 4) (v := ?_) rfl rfl (by kernel_rfl) (by kernel_rfl) (by kernel_rfl) (fun _ _ _ h => h) (by rfl) (by trivial) ?_ ?_
            rotate_left
            · intro w' _; go_simp; try exact rfl
            try simp only [List.setIfInBounds_toArray, List.set_cons_zero, List.set_cons_succ]
            refine wpAnyH_done (by kernel_rfl) ?_ _
            have HI : Hid (IntsI w11 v11 (addL ns x)) := by
              show IntsI _ _ _
              rw [addL_new hk hless hmore]
              exact ints_own (N := w.heap.size) (by simpa [ints, List.map_append] using hO11) (by simp; omega)
            obtain ⟨b', o', c', e', _⟩ := HI.out
            subst e'
            clear hO4 hO7 hO11 hG4 hG7 hG11 hHeld
            go_wp2
            refine bodyPost_ret (v := .slice (some ⟨b', o', none⟩) (addL ns x).length c') (by simp [results, Try.results29, go_sem]) rfl ⟨⟨_, rfl, HI.out⟩, hB11⟩
        · go_simp
          refine hK.out _ _ ?_ (fun hHeld6 => ?_)
          · trivial
          clear hK hHeld6
          try simp only [List.setIfInBounds_toArray, List.set_cons_zero, List.set_cons_succ]
          refine wpAnyH_ready (rs := [0]) (by kernel_rfl) (by simp) ?_
          refine AllReadyH.cons rfl (fun K hK => ?_) AllReadyH.nil
          go_simp
          refine hK.out _ _ ?_ (fun hHeld0 => ?_)
          · trivial
          clear hK hHeld0
          try simp only [List.setIfInBounds_toArray, List.set_cons_zero, List.set_cons_succ]
          have hO33 : ((w.drew.alloc (.cells #[.int .i64 x] 3)).alloc (.cells #[] 3)).ownsRow w.heap.size 3 1 (.slice (some ⟨w.heap.size + 1, 0, none⟩) 0 0) 0 [] := ints_none (by simp) (by omega)
          have hBW : Below w.heap.size w ((w.drew.alloc (.cells #[.int .i64 x] 3)).alloc (.cells #[] 3)) := by repeat (first | (with_reducible exact Below.refl _ _) | (with_reducible refine Below.drew ?_) | (with_reducible refine Below.alloc ?_ ?hh _; case hh => first | (simp; done) | (simp; omega) | omega) | (with_reducible refine Below.setCell ?_ ?hh _; case hh => first | (simp; done) | (simp; omega) | omega) | refine bstep (by assumption) (by first | (simp; done) | (simp; omega) | omega) ?_)
          have hx39 : ((w.drew.alloc (.cells #[.int .i64 x] 3)).alloc (.cells #[] 3)).cell? ⟨w.heap.size, 0, none⟩ = some (.int .i64 x) := by go_simp
          refine wpAnyH_ready (rs := [4]) (by kernel_rfl) (by simp) ?_
          refine AllReadyH.cons rfl (fun K hK => ?_) AllReadyH.nil
          refine step_append_own _ (by rfl) _ _ 28 (by rfl) w.heap.size 3 i0 _ 1 8 Try.underlying28 hi hz0 hz1 hz2 rfl (by omega) (.slice (some ⟨w.heap.size + 1, 0, none⟩) 0 0) 0 [] (by rfl) hO33 ⟨b, o, none⟩ k c (ints (ns.take k)) (by rfl) (by simp [ints]; omega) (fun j u hu => by rw [add_plain]; exact hcellT _ hBW j u hu) (ints_one _) (by unfold maxLen; omega) (by omega) (by simp; try omega) ?_
          intro v4 w4 hO4 hG4
          have hz4 := hG4.size
          (try simp at hz4)
          have hB4 : Below w.heap.size w w4 := hBW.grown hG4 (by simp; try omega) (fun q hq => by simp [Value.ownBlock] at hq; omega)
          have hx4 : w4.cell? ⟨w.heap.size, 0, none⟩ = some (.int .i64 x) := (hG4.cell_far _ (by simp; try omega) (by simp [Value.ownBlock]; try omega)).trans hx39
          have hlt4 := ownsE_lt hO4
          refine hK.out _ _ ?_ (fun hHeld4 => ?_)
          · trivial
          clear hK hHeld4
          try simp only [List.setIfInBounds_toArray, List.set_cons_zero, List.set_cons_succ]
          refine wpAnyH_ready (rs := [7]) (by kernel_rfl) (by simp) ?_
          refine AllReadyH.cons rfl (fun K hK => ?_) AllReadyH.nil
          refine step_append_own _ (by rfl) _ _ 28 (by rfl) w.heap.size 3 i0 _ 1 8 Try.underlying28 hi hz0 hz1 hz2 rfl (by omega) v4 (0 + k) ([] ++ ints (ns.take k)) (by rfl) hO4 ⟨w.heap.size, 0, none⟩ 1 1 [.int .i64 x] (by rfl) (by rfl) (fun j u hu => by match j, hu with | 0, hu => simp at hu; subst hu; rw [add_plain]; exact hx4) (by simp [Value.oneCell']) (by unfold maxLen; omega) (by omega) (by omega) ?_
          intro v7 w7 hO7 hG7
          have hz7 := hG7.size
          have hB7 : Below w.heap.size w w7 := hB4.grown hG7 (by omega) (fun q hq => (ownsE_lt hO4 q hq).1)
          refine hK.out _ _ ?_ (fun hHeld7 => ?_)
          · trivial
          clear hK hHeld7
          try simp only [List.setIfInBounds_toArray, List.set_cons_zero, List.set_cons_succ]
          refine wpAnyH_ready (rs := [11]) (by kernel_rfl) (by simp) ?_
          refine AllReadyH.cons rfl (fun K hK => ?_) AllReadyH.nil
          refine step_append_own _ (by rfl) _ _ 28 (by rfl) w.heap.size 3 i0 _ 1 8 Try.underlying28 hi hz0 hz1 hz2 rfl (by omega) v7 (0 + k + 1) ([] ++ ints (ns.take k) ++ [.int .i64 x]) (by rfl) hO7 ad (ns.length - k) (c - k) (ints (ns.drop k)) (by rfl) (by simp [ints]) (fun j u hu => hcellD _ hB7 j u hu) (ints_one _) (by unfold maxLen; omega) (by omega) (by omega) ?_
          intro v11 w11 hO11 hG11
          have hB11 : Below w.heap.size w w11 := hB7.grown hG11 (by omega) (fun q hq => (ownsE_lt hO7 q hq).1)
          refine hK.out _ _ ?_ (fun hHeld11 => ?_)
          · trivial
          clear hK hHeld11
          try simp only [List.setIfInBounds_toArray, List.set_cons_zero, List.set_cons_succ]
          refine takeYes (i := 12) (d := 4) (v := ?_) rfl rfl (by kernel_rfl) (by kernel_rfl) (by kernel_rfl) (fun _ _ _ h => h) (by rfl) (by trivial) ?_ ?_
          rotate_left
          · intro w' _; go_simp; try exact rfl
          try simp only [List.setIfInBounds_toArray, List.set_cons_zero, List.set_cons_succ]
          refine wpAnyH_done (by kernel_rfl) ?_ _
          have HI : Hid (IntsI w11 v11 (addL ns x)) := by
            show IntsI _ _ _
            rw [addL_new hk hless hmore]
            exact ints_own (N := w.heap.size) (by simpa [ints, List.map_append] using hO11) (by simp; omega)
          obtain ⟨b', o', c', e', _⟩ := HI.out
          subst e'
          clear hO4 hO7 hO11 hG4 hG7 hG11 hHeld
          go_wp2
          refine bodyPost_ret (v := .slice (some ⟨b', o', none⟩) (addL ns x).length c') (by simp [results, Try.results29, go_sem]) rfl ⟨⟨_, rfl, HI.out⟩, hB11⟩
    · have hmore : ∀ n, ns[k]? = some n → x < n := fun n hn => by rw [List.getElem?_eq_none (by omega)] at hn; cases hn
      have hcellT : ∀ W, Below w.heap.size w W → ∀ j u, (ints (ns.take k))[j]? = some u → W.cell? ⟨b, o + j, none⟩ = some u := by
        intro W hW j u hu
        have hj : j < k := by have := (List.getElem?_eq_some_iff.1 hu).1; simp [ints] at this; omega
        have hjl : j < ns.length := by omega
        have e : u = Value.int .i64 ns[j] := by simp [ints, hj, hjl] at hu; exact hu.symm
        rw [e]
        exact ((bcell hW).1 _ _ hlt).trans (hcell j ns[j] (by simp))
      obtain ⟨ad, hif, hcellD⟩ : ∃ ad : Addr, (if c = k then some (⟨b, o, none⟩ : Addr) else some ⟨b, o + k, none⟩) = some ad ∧ ∀ W, Below w.heap.size w W → ∀ j u, (ints (ns.drop k))[j]? = some u → W.cell? (ad.add j) = some u := by
        by_cases hck : c = k
        · refine ⟨_, if_pos hck, fun W hW j u hu => ?_⟩
          have := (List.getElem?_eq_some_iff.1 hu).1
          simp [ints] at this
          omega
        · refine ⟨_, if_neg hck, fun W hW j u hu => ?_⟩
          have hjl : k + j < ns.length := by have := (List.getElem?_eq_some_iff.1 hu).1; simp [ints] at this; omega
          have e : u = Value.int .i64 ns[k + j] := by simp [ints, hjl] at hu; exact hu.symm
          rw [e, add_plain, Nat.add_assoc]
          exact ((bcell hW).1 _ _ hlt).trans (hcell (k + j) ns[k + j] (by simp))
      have hkc : k ≤ c := by omega
      clear hcell
      clear hin hI
      go_wp2_with fail
      refine wp_region_held_drew (S := fun _ => True) (by kernel_rfl) ?_ (fun hHeld => ?_)
      · trivial
      refine takeYes (i := 1) (d := 34) (v := ?_) rfl rfl (by kernel_rfl) (by kernel_rfl) (by kernel_rfl) (fun _ _ _ h => h) (by rfl) (by trivial) ?_ ?_
      rotate_left
      · intro w' _; go_simp; try exact rfl
      try simp only [List.setIfInBounds_toArray, List.set_cons_zero, List.set_cons_succ]
      refine takeYes (i := 2) (d := 35) (v := ?_) rfl rfl (by kernel_rfl) (by kernel_rfl) (by kernel_rfl) (fun _ _ _ h => h) (by rfl) (by trivial) ?_ ?_
      rotate_left
      · intro w' _; go_simp; try exact rfl
      try simp only [List.setIfInBounds_toArray, List.set_cons_zero, List.set_cons_succ]
      refine takeYes (i := 3) (d := 36) (v := ?_) rfl rfl (by kernel_rfl) (by kernel_rfl) (by kernel_rfl) (fun _ _ _ h => h) (by rfl) (by trivial) ?_ ?_
      rotate_left
      · intro w' _; go_simp; try exact rfl
      try simp only [List.setIfInBounds_toArray, List.set_cons_zero, List.set_cons_succ]
      refine takeYes (i := 5) (d := 38) (v := ?_) rfl rfl (by kernel_rfl) (by kernel_rfl) (by kernel_rfl) (fun _ _ _ h => h) (by rfl) (by trivial) ?_ ?_
      rotate_left
      · intro w' _; go_simp; try exact rfl
      try simp only [List.setIfInBounds_toArray, List.set_cons_zero, List.set_cons_succ]
      refine takeYes (i := 8) (d := 41) (v := ?_) rfl rfl (by kernel_rfl) (by kernel_rfl) (by kernel_rfl) (fun _ _ _ h => h) (by rfl) (by trivial) ?_ ?_
      rotate_left
      · intro w' _; go_simp; try exact rfl
      try simp only [List.setIfInBounds_toArray, List.set_cons_zero, List.set_cons_succ]
      refine takeYes (i := 9) (d := 42) (v := ?_) rfl rfl (by kernel_rfl) (by kernel_rfl) (by kernel_rfl) (fun _ _ _ h => h) (by rfl) (by trivial) ?_ ?_
      rotate_left
      · intro w' _; go_simp; try exact rfl
      try simp only [List.setIfInBounds_toArray, List.set_cons_zero, List.set_cons_succ]
      refine takeYes (i := 10) (d := 43) (v := ?_) rfl rfl (by kernel_rfl) (by kernel_rfl) (by kernel_rfl) (fun _ _ _ h => h) (by rfl) (by trivial) ?_ ?_
      rotate_left
      · intro w' _; go_simp; try exact rfl
      try simp only [List.setIfInBounds_toArray, List.set_cons_zero, List.set_cons_succ]
      refine wpAnyH_ready (rs := [0, 6]) (by kernel_rfl) (by simp) ?_
      refine AllReadyH.cons rfl (fun K hK => ?_) (AllReadyH.cons rfl (fun K hK => ?_) AllReadyH.nil)
      · go_simp
        refine hK.out _ _ ?_ (fun hHeld0 => ?_)
        · trivial
        clear hK hHeld0
        try simp only [List.setIfInBounds_toArray, List.set_cons_zero, List.set_cons_succ]
        refine wpAnyH_ready (rs := [4, 6]) (by kernel_rfl) (by simp) ?_
        refine AllReadyH.cons rfl (fun K hK => ?_) (AllReadyH.cons rfl (fun K hK => ?_) AllReadyH.nil)
        · have hO33 : (w.drew.alloc (.cells #[] 3)).ownsRow w.heap.size 3 1 (.slice (some ⟨w.heap.size, 0, none⟩) 0 0) 0 [] := ints_none rfl (Nat.le_refl _)
          have hBW : Below w.heap.size w (w.drew.alloc (.cells #[] 3)) := by repeat (first | (with_reducible exact Below.refl _ _) | (with_reducible refine Below.drew ?_) | (with_reducible refine Below.alloc ?_ ?hh _; case hh => first | (simp; done) | (simp; omega) | omega) | (with_reducible refine Below.setCell ?_ ?hh _; case hh => first | (simp; done) | (simp; omega) | omega) | refine bstep (by assumption) (by first | (simp; done) | (simp; omega) | omega) ?_)
          refine step_append_own _ (by rfl) _ _ 28 (by rfl) w.heap.size 3 i0 _ 1 8 Try.underlying28 hi hz0 hz1 hz2 rfl (by omega) (.slice (some ⟨w.heap.size, 0, none⟩) 0 0) 0 [] (by rfl) hO33 ⟨b, o, none⟩ k c (ints (ns.take k)) (by rfl) (by simp [ints]; omega) (fun j u hu => by rw [add_plain]; exact hcellT _ hBW j u hu) (ints_one _) (by unfold maxLen; omega) (by omega) (by simp; try omega) ?_
          intro v4 w4 hO4 hG4
          have hz4 := hG4.size
          (try simp at hz4)
          have hB4 : Below w.heap.size w w4 := hBW.grown hG4 (by simp; try omega) (fun q hq => by simp [Value.ownBlock] at hq; omega)
          refine hK.out _ _ ?_ (fun hHeld4 => ?_)
          · trivial
          clear hK hHeld4
          try simp only [List.setIfInBounds_toArray, List.set_cons_zero, List.set_cons_succ]
          refine wpAnyH_ready (rs := [6]) (by kernel_rfl) (by simp) ?_
          refine AllReadyH.cons rfl (fun K hK => ?_) AllReadyH.nil
          go_simp
          refine hK.out _ _ ?_ (fun hHeld6 => ?_)
          · trivial
          clear hK hHeld6
          try simp only [List.setIfInBounds_toArray, List.set_cons_zero, List.set_cons_succ]
          have hx4 : (w4.alloc (.cells #[.int .i64 x] 3)).cell? ⟨w4.heap.size, 0, none⟩ = some (.int .i64 x) := by go_simp
          replace hO4 := ownsE_keep (w' := w4.alloc (.cells #[.int .i64 x] 3)) hO4 fun q hq => Below.heap_alloc _ _ _ (ownsE_lt hO4 q hq).2
          replace hB4 : Below w.heap.size w (w4.alloc (.cells #[.int .i64 x] 3)) := hB4.alloc (by omega) _
          have hzz : (w4.alloc (.cells #[.int .i64 x] 3)).heap.size = w4.heap.size + 1 := by simp
          refine wpAnyH_ready (rs := [7]) (by kernel_rfl) (by simp) ?_
          refine AllReadyH.cons rfl (fun K hK => ?_) AllReadyH.nil
          refine step_append_own _ (by rfl) _ _ 28 (by rfl) w.heap.size 3 i0 _ 1 8 Try.underlying28 hi hz0 hz1 hz2 rfl (by omega) v4 (0 + k) ([] ++ ints (ns.take k)) (by rfl) hO4 ⟨w4.heap.size, 0, none⟩ 1 1 [.int .i64 x] (by rfl) (by rfl) (fun j u hu => by match j, hu with | 0, hu => simp at hu; subst hu; rw [add_plain]; exact hx4) (by simp [Value.oneCell']) (by unfold maxLen; omega) (by omega) (by omega) ?_
          intro v7 w7 hO7 hG7
          have hz7 := hG7.size
          have hB7 : Below w.heap.size w w7 := hB4.grown hG7 (by omega) (fun q hq => (ownsE_lt hO4 q hq).1)
          refine hK.out _ _ ?_ (fun hHeld7 => ?_)
          · trivial
          clear hK hHeld7
          try simp only [List.setIfInBounds_toArray, List.set_cons_zero, List.set_cons_succ]
          refine wpAnyH_ready (rs := [11]) (by kernel_rfl) (by simp) ?_
          refine AllReadyH.cons rfl (fun K hK => ?_) AllReadyH.nil
          refine step_append_own _ (by rfl) _ _ 28 (by rfl) w.heap.size 3 i0 _ 1 8 Try.underlying28 hi hz0 hz1 hz2 rfl (by omega) v7 (0 + k + 1) ([] ++ ints (ns.take k) ++ [.int .i64 x]) (by rfl) hO7 ad (ns.length - k) (c - k) (ints (ns.drop k)) (by rfl) (by simp [ints]) (fun j u hu => hcellD _ hB7 j u hu) (ints_one _) (by unfold maxLen; omega) (by omega) (by omega) ?_
          intro v11 w11 hO11 hG11
          have hB11 : Below w.heap.size w w11 := hB7.grown hG11 (by omega) (fun q hq => (ownsE_lt hO7 q hq).1)
          refine hK.out _ _ ?_ (fun hHeld11 => ?_)
          · trivial
          clear hK hHeld11
          try simp only [List.setIfInBounds_toArray, List.set_cons_zero, List.set_cons_succ]
          refine takeYes (i := 12) (d := 4) (v := ?_) rfl rfl (by kernel_rfl) (by kernel_rfl) (by kernel_rfl) (fun _ _ _ h => h) (by rfl) (by trivial) ?_ ?_
          rotate_left
          · intro w' _; go_simp; try exact rfl
          try simp only [List.setIfInBounds_toArray, List.set_cons_zero, List.set_cons_succ]
          refine wpAnyH_done (by kernel_rfl) ?_ _
          have HI : Hid (IntsI w11 v11 (addL ns x)) := by
            show IntsI _ _ _
            rw [addL_new hk hless hmore]
            exact ints_own (N := w.heap.size) (by simpa [ints, List.map_append] using hO11) (by simp; omega)
          obtain ⟨b', o', c', e', _⟩ := HI.out
          subst e'
          clear hO4 hO7 hO11 hG4 hG7 hG11 hHeld
          go_wp2
          refine bodyPost_ret (v := .slice (some ⟨b', o', none⟩) (addL ns x).length c') (by simp [results, Try.results29, go_sem]) rfl ⟨⟨_, rfl, HI.out⟩, hB11⟩
        · go_simp
          refine hK.out _ _ ?_ (fun hHeld6 => ?_)
          · trivial
          clear hK hHeld6
          try simp only [List.setIfInBounds_toArray, List.set_cons_zero, List.set_cons_succ]
          have hO33 : ((w.drew.alloc (.cells #[] 3)).alloc (.cells #[.int .i64 x] 3)).ownsRow w.heap.size 3 1 (.slice (some ⟨w.heap.size, 0, none⟩) 0 0) 0 [] := ownsE_keep (ints_none rfl (Nat.le_refl _)) fun q hq => Below.heap_alloc _ _ _ (by simp [Value.ownBlock] at hq; subst hq; simp)
          have hBW : Below w.heap.size w ((w.drew.alloc (.cells #[] 3)).alloc (.cells #[.int .i64 x] 3)) := by repeat (first | (with_reducible exact Below.refl _ _) | (with_reducible refine Below.drew ?_) | (with_reducible refine Below.alloc ?_ ?hh _; case hh => first | (simp; done) | (simp; omega) | omega) | (with_reducible refine Below.setCell ?_ ?hh _; case hh => first | (simp; done) | (simp; omega) | omega) | refine bstep (by assumption) (by first | (simp; done) | (simp; omega) | omega) ?_)
          have hx39 : ((w.drew.alloc (.cells #[] 3)).alloc (.cells #[.int .i64 x] 3)).cell? ⟨w.heap.size + 1, 0, none⟩ = some (.int .i64 x) := by go_simp
          refine wpAnyH_ready (rs := [4]) (by kernel_rfl) (by simp) ?_
          refine AllReadyH.cons rfl (fun K hK => ?_) AllReadyH.nil
          refine step_append_own _ (by rfl) _ _ 28 (by rfl) w.heap.size 3 i0 _ 1 8 Try.underlying28 hi hz0 hz1 hz2 rfl (by omega) (.slice (some ⟨w.heap.size, 0, none⟩) 0 0) 0 [] (by rfl) hO33 ⟨b, o, none⟩ k c (ints (ns.take k)) (by rfl) (by simp [ints]; omega) (fun j u hu => by rw [add_plain]; exact hcellT _ hBW j u hu) (ints_one _) (by unfold maxLen; omega) (by omega) (by simp; try omega) ?_
          intro v4 w4 hO4 hG4
          have hz4 := hG4.size
          (try simp at hz4)
          have hB4 : Below w.heap.size w w4 := hBW.grown hG4 (by simp; try omega) (fun q hq => by simp [Value.ownBlock] at hq; omega)
          have hx4 : w4.cell? ⟨w.heap.size + 1, 0, none⟩ = some (.int .i64 x) := (hG4.cell_far _ (by simp; try omega) (by simp [Value.ownBlock]; try omega)).trans hx39
          have hlt4 := ownsE_lt hO4
          refine hK.out _ _ ?_ (fun hHeld4 => ?_)
          · trivial
          clear hK hHeld4
          try simp only [List.setIfInBounds_toArray, List.set_cons_zero, List.set_cons_succ]
          refine wpAnyH_ready (rs := [7]) (by kernel_rfl) (by simp) ?_
          refine AllReadyH.cons rfl (fun K hK => ?_) AllReadyH.nil
          refine step_append_own _ (by rfl) _ _ 28 (by rfl) w.heap.size 3 i0 _ 1 8 Try.underlying28 hi hz0 hz1 hz2 rfl (by omega) v4 (0 + k) ([] ++ ints (ns.take k)) (by rfl) hO4 ⟨w.heap.size + 1, 0, none⟩ 1 1 [.int .i64 x] (by rfl) (by rfl) (fun j u hu => by match j, hu with | 0, hu => simp at hu; subst hu; rw [add_plain]; exact hx4) (by simp [Value.oneCell']) (by unfold maxLen; omega) (by omega) (by omega) ?_
          intro v7 w7 hO7 hG7
          have hz7 := hG7.size
          have hB7 : Below w.heap.size w w7 := hB4.grown hG7 (by omega) (fun q hq => (ownsE_lt hO4 q hq).1)
          refine hK.out _ _ ?_ (fun hHeld7 => ?_)
          · trivial
          clear hK hHeld7
          try simp only [List.setIfInBounds_toArray, List.set_cons_zero, List.set_cons_succ]
          refine wpAnyH_ready (rs := [11]) (by kernel_rfl) (by simp) ?_
          refine AllReadyH.cons rfl (fun K hK => ?_) AllReadyH.nil
          refine step_append_own _ (by rfl) _ _ 28 (by rfl) w.heap.size 3 i0 _ 1 8 Try.underlying28 hi hz0 hz1 hz2 rfl (by omega) v7 (0 + k + 1) ([] ++ ints (ns.take k) ++ [.int .i64 x]) (by rfl) hO7 ad (ns.length - k) (c - k) (ints (ns.drop k)) (by rfl) (by simp [ints]) (fun j u hu => hcellD _ hB7 j u hu) (ints_one _) (by unfold maxLen; omega) (by omega) (by omega) ?_
          intro v11 w11 hO11 hG11
          have hB11 : Below w.heap.size w w11 := hB7.grown hG11 (by omega) (fun q hq => (ownsE_lt hO7 q hq).1)
          refine hK.out _ _ ?_ (fun hHeld11 => ?_)
          · trivial
          clear hK hHeld11
          try simp only [List.setIfInBounds_toArray, List.set_cons_zero, List.set_cons_succ]
          refine takeYes (i := 12) (d := 4) (v := ?_) rfl rfl (by kernel_rfl) (by kernel_rfl) (by kernel_rfl) (fun _ _ _ h => h) (by rfl) (by trivial) ?_ ?_
          rotate_left
          · intro w' _; go_simp; try exact rfl
          try simp only [List.setIfInBounds_toArray, List.set_cons_zero, List.set_cons_succ]
          refine wpAnyH_done (by kernel_rfl) ?_ _
          have HI : Hid (IntsI w11 v11 (addL ns x)) := by
            show IntsI _ _ _
            rw [addL_new hk hless hmore]
            exact ints_own (N := w.heap.size) (by simpa [ints, List.map_append] using hO11) (by simp; omega)
          obtain ⟨b', o', c', e', _⟩ := HI.out
          subst e'
          clear hO4 hO7 hO11 hG4 hG7 hG11 hHeld
          go_wp2
          refine bodyPost_ret (v := .slice (some ⟨b', o', none⟩) (addL ns x).length c') (by simp [results, Try.results29, go_sem]) rfl ⟨⟨_, rfl, HI.out⟩, hB11⟩
      · go_simp
        refine hK.out _ _ ?_ (fun hHeld6 => ?_)
        · trivial
        clear hK hHeld6
        try simp only [List.setIfInBounds_toArray, List.set_cons_zero, List.set_cons_succ]
        refine wpAnyH_ready (rs := [0]) (by kernel_rfl) (by simp) ?_
        refine AllReadyH.cons rfl (fun K hK => ?_) AllReadyH.nil
        go_simp
        refine hK.out _ _ ?_ (fun hHeld0 => ?_)
        · trivial
        clear hK hHeld0
        try simp only [List.setIfInBounds_toArray, List.set_cons_zero, List.set_cons_succ]
        have hO33 : ((w.drew.alloc (.cells #[.int .i64 x] 3)).alloc (.cells #[] 3)).ownsRow w.heap.size 3 1 (.slice (some ⟨w.heap.size + 1, 0, none⟩) 0 0) 0 [] := ints_none (by simp) (by omega)
        have hBW : Below w.heap.size w ((w.drew.alloc (.cells #[.int .i64 x] 3)).alloc (.cells #[] 3)) := by repeat (first | (with_reducible exact Below.refl _ _) | (with_reducible refine Below.drew ?_) | (with_reducible refine Below.alloc ?_ ?hh _; case hh => first | (simp; done) | (simp; omega) | omega) | (with_reducible refine Below.setCell ?_ ?hh _; case hh => first | (simp; done) | (simp; omega) | omega) | refine bstep (by assumption) (by first | (simp; done) | (simp; omega) | omega) ?_)
        have hx39 : ((w.drew.alloc (.cells #[.int .i64 x] 3)).alloc (.cells #[] 3)).cell? ⟨w.heap.size, 0, none⟩ = some (.int .i64 x) := by go_simp
        refine wpAnyH_ready (rs := [4]) (by kernel_rfl) (by simp) ?_
        refine AllReadyH.cons rfl (fun K hK => ?_) AllReadyH.nil
        refine step_append_own _ (by rfl) _ _ 28 (by rfl) w.heap.size 3 i0 _ 1 8 Try.underlying28 hi hz0 hz1 hz2 rfl (by omega) (.slice (some ⟨w.heap.size + 1, 0, none⟩) 0 0) 0 [] (by rfl) hO33 ⟨b, o, none⟩ k c (ints (ns.take k)) (by rfl) (by simp [ints]; omega) (fun j u hu => by rw [add_plain]; exact hcellT _ hBW j u hu) (ints_one _) (by unfold maxLen; omega) (by omega) (by simp; try omega) ?_
        intro v4 w4 hO4 hG4
        have hz4 := hG4.size
        (try simp at hz4)
        have hB4 : Below w.heap.size w w4 := hBW.grown hG4 (by simp; try omega) (fun q hq => by simp [Value.ownBlock] at hq; omega)
        have hx4 : w4.cell? ⟨w.heap.size, 0, none⟩ = some (.int .i64 x) := (hG4.cell_far _ (by simp; try omega) (by simp [Value.ownBlock]; try omega)).trans hx39
        have hlt4 := ownsE_lt hO4
        refine hK.out _ _ ?_ (fun hHeld4 => ?_)
        · trivial
        clear hK hHeld4
        try simp only [List.setIfInBounds_toArray, List.set_cons_zero, List.set_cons_succ]
        refine wpAnyH_ready (rs := [7]) (by kernel_rfl) (by simp) ?_
        refine AllReadyH.cons rfl (fun K hK => ?_) AllReadyH.nil
        refine step_append_own _ (by rfl) _ _ 28 (by rfl) w.heap.size 3 i0 _ 1 8 Try.underlying28 hi hz0 hz1 hz2 rfl (by omega) v4 (0 + k) ([] ++ ints (ns.take k)) (by rfl) hO4 ⟨w.heap.size, 0, none⟩ 1 1 [.int .i64 x] (by rfl) (by rfl) (fun j u hu => by match j, hu with | 0, hu => simp at hu; subst hu; rw [add_plain]; exact hx4) (by simp [Value.oneCell']) (by unfold maxLen; omega) (by omega) (by omega) ?_
        intro v7 w7 hO7 hG7
        have hz7 := hG7.size
        have hB7 : Below w.heap.size w w7 := hB4.grown hG7 (by omega) (fun q hq => (ownsE_lt hO4 q hq).1)
        refine hK.out _ _ ?_ (fun hHeld7 => ?_)
        · trivial
        clear hK hHeld7
        try simp only [List.setIfInBounds_toArray, List.set_cons_zero, List.set_cons_succ]
        refine wpAnyH_ready (rs := [11]) (by kernel_rfl) (by simp) ?_
        refine AllReadyH.cons rfl (fun K hK => ?_) AllReadyH.nil
        refine step_append_own _ (by rfl) _ _ 28 (by rfl) w.heap.size 3 i0 _ 1 8 Try.underlying28 hi hz0 hz1 hz2 rfl (by omega) v7 (0 + k + 1) ([] ++ ints (ns.take k) ++ [.int .i64 x]) (by rfl) hO7 ad (ns.length - k) (c - k) (ints (ns.drop k)) (by rfl) (by simp [ints]) (fun j u hu => hcellD _ hB7 j u hu) (ints_one _) (by unfold maxLen; omega) (by omega) (by omega) ?_
        intro v11 w11 hO11 hG11
        have hB11 : Below w.heap.size w w11 := hB7.grown hG11 (by omega) (fun q hq => (ownsE_lt hO7 q hq).1)
        refine hK.out _ _ ?_ (fun hHeld11 => ?_)
        · trivial
        clear hK hHeld11
        try simp only [List.setIfInBounds_toArray, List.set_cons_zero, List.set_cons_succ]
        refine takeYes (i := 12) (d := 4) (v := ?_) rfl rfl (by kernel_rfl) (by kernel_rfl) (by kernel_rfl) (fun _ _ _ h => h) (by rfl) (by trivial) ?_ ?_
        rotate_left
        · intro w' _; go_simp; try exact rfl
        try simp only [List.setIfInBounds_toArray, List.set_cons_zero, List.set_cons_succ]
        refine wpAnyH_done (by kernel_rfl) ?_ _
        have HI : Hid (IntsI w11 v11 (addL ns x)) := by
          show IntsI _ _ _
          rw [addL_new hk hless hmore]
          exact ints_own (N := w.heap.size) (by simpa [ints, List.map_append] using hO11) (by simp; omega)
        obtain ⟨b', o', c', e', _⟩ := HI.out
        subst e'
        clear hO4 hO7 hO11 hG4 hG7 hG11 hHeld
        go_wp2
        refine bodyPost_ret (v := .slice (some ⟨b', o', none⟩) (addL ns x).length c') (by simp [results, Try.results29, go_sem]) rfl ⟨⟨_, rfl, HI.out⟩, hB11⟩
end Go.Proofs.Ytpkebpbflfhbnaa
