/- Own text. The contract of spec.l04Put. -/
import Derived.Test.YtjhcachbaebhfaaNmP
import Derived.Test.YtjhcachbaebhfaaTake
import Derived.Test.YtjhcachbaebhfaaColA
import Derived.Handy
import Derived.Deep.DrawnRows
import Derived.Deep.RegionHeld3
import Derived.Laws.AppendOwn
namespace Go.Proofs.Ytjhcachbaebhfaa
open Go.RowKit Go.Deep Go.ChangeShapes Go.WideShapes
set_option linter.unusedVariables false
theorem Try.infoStr : (Try.prog.info? 9).map (fun i => (i.zero, i.size, i.bytes)) = some (some (.string ⟨#[]⟩), 1, 16) := by kernel_rfl
/-- the slice value v has the texts ns. -/
def StrsI (w : World) (v : Value) (ns : List ByteArray) : Prop :=
  ∃ b o c, v = .slice (some ⟨b, o, none⟩) ns.length c ∧ ns.length ≤ c ∧ c ≤ maxLen ∧ b < w.heap.size ∧ ∀ i n, ns[i]? = some n → w.cell? ⟨b, o + i, none⟩ = some (.string n)
theorem StrsI.below {w w' : World} {v : Value} {ns : List ByteArray} (h : StrsI w v ns) (hb : Below w.heap.size w w') : StrsI w' v ns := by
  obtain ⟨b, o, c, hv, hl, hc, hlt, hcell⟩ := h
  exact ⟨b, o, c, hv, hl, hc, Nat.lt_of_lt_of_le hlt hb.size, fun i n hn => ((bcell hb).1 _ _ hlt).trans (hcell i n hn)⟩
def strs (ns : List ByteArray) : List Value := ns.map Value.string
theorem strs_one (ns : List ByteArray) : ∀ u ∈ strs ns, u.oneCell' = true := by
  intro u hu
  obtain ⟨n, _, rfl⟩ := List.mem_map.1 hu
  rfl
theorem strs_own {w : World} {N n : Nat} {v : Value} {ns : List ByteArray} {t : TypeId} (h : w.ownsRow N t 1 v n (strs ns)) (hn : 0 < ns.length) : StrsI w v ns := by
  have hlt := ownsE_lt h
  obtain ⟨hl, ho⟩ := h
  have hl : ns.length = n := by simpa [strs] using hl
  subst hl
  rcases ho with ⟨_, h0⟩ | ⟨g, cap, cur, rfl, hg, hc, hn', hm, hs, ht⟩
  · omega
  refine ⟨g, 0, cap, rfl, hn', hm, (hlt g rfl).2, fun i n hi => ?_⟩
  have hi' : i < ns.length := (List.getElem?_eq_some_iff.1 hi).1
  have hu : (strs ns)[i]? = some (.string n) := by simp [strs, hi]
  simp only [World.cell?, hc]
  rw [← ht, List.getElem?_take, if_pos (by omega), Array.getElem?_toList] at hu
  simpa using hu
set_option maxHeartbeats 4000000 in
set_option maxRecDepth 100000 in
theorem l04Put_any (v : Value) (ns : List ByteArray) (x : ByteArray) (w : World) (h : StrsI w v ns) (hn : ns.length ≤ 4194304) :
    Calls Try.prog 114 #[v, .string x] w fun e w' => (∃ v', e = .returned v' ∧ StrsI w' v' (addS ns x)) ∧ Below w.heap.size w w' := by
  obtain ⟨i0, hi, hz0, hz1, hz2⟩ := info_parts Try.infoStr
  have hI := h
  obtain ⟨b, o, c, rfl, hl, hc, hlt, hcell⟩ := h
  unfold maxLen at hc
  go_enter Try.func114, Try.ntmps114
  go_wp2
  go_loopw [5] (fun i wr => ∃ k : Nat, k ≤ ns.length ∧ i = .int .i64 k ∧ wr = w ∧ ∀ i n, i < k → ns[i]? = some n → lessS n x) (fun i _ => ns.length - (intOf i).toNat)
  case atStart => exact ⟨0, Nat.zero_le _, rfl, rfl, fun i n hi => by omega⟩
  case round =>
    obtain ⟨k, hk, rfl, hwr, hless⟩ := hrel
    replace hwr := hwr.symm
    subst hwr
    by_cases hin : k < ns.length ∧ ∀ n, ns[k]? = some n → lessS n x
    · obtain ⟨hkl, hkx⟩ := hin
      obtain ⟨m, hm⟩ : ∃ m, ns[k]? = some m := ⟨ns[k], by simp [hkl]⟩
      have hc0 := hcell k m hm
      have hmx : Op.bytesLess m.toList x.toList = true := hkx m hm
      have HL : Hid (∀ i n, i < k + 1 → ns[i]? = some n → lessS n x) := fun i n hi hn => by
        by_cases e : i = k
        · subst e; exact hkx n hn
        · exact hless i n (by omega) hn
      clear hless hkx hm hcell hI
      go_wp2
      exact ⟨⟨k + 1, hkl, by simp, by first | rfl | trivial, HL.out⟩, by simp [intOf]; omega⟩
    by_cases hkl : k < ns.length
    · obtain ⟨m, hm⟩ : ∃ m, ns[k]? = some m := ⟨ns[k], by simp [hkl]⟩
      have hc0 := hcell k m hm
      have hmx0 : ¬ lessS m x := fun h => hin ⟨hkl, fun n hn => by rw [hm] at hn; cases hn; exact h⟩
      have hmx : Op.bytesLess m.toList x.toList = false := by unfold lessS at hmx0; simpa using hmx0
      by_cases hmx2 : m = x
      · subst hmx2
        have HI : Hid (StrsI w (.slice (some ⟨b, o, none⟩) ns.length c) (addS ns m)) := by
          show StrsI _ _ _
          rw [addS_same hless hm]; exact hI
        clear hless hin hm hcell hI
        go_wp2
        refine bodyPost_ret (v := .slice (some ⟨b, o, none⟩) ns.length c) (by simp [results, Try.results114, go_sem]) rfl ⟨⟨_, rfl, HI.out⟩, Below.refl _ _⟩
      · have hmore : ∀ n, ns[k]? = some n → lessS x n := fun n hn => by rw [hm] at hn; cases hn; exact lessS_or hmx0 hmx2
        have hcellT : ∀ W, Below w.heap.size w W → ∀ j u, (strs (ns.take k))[j]? = some u → W.cell? ⟨b, o + j, none⟩ = some u := by
          intro W hW j u hu
          have hj : j < k := by have := (List.getElem?_eq_some_iff.1 hu).1; simp [strs] at this; omega
          have hjl : j < ns.length := by omega
          have e : u = Value.string ns[j] := by simp [strs, hj, hjl] at hu; exact hu.symm
          rw [e]
          exact ((bcell hW).1 _ _ hlt).trans (hcell j ns[j] (by simp))
        obtain ⟨ad, hif, hcellD⟩ : ∃ ad : Addr, (if c = k then some (⟨b, o, none⟩ : Addr) else some ⟨b, o + k, none⟩) = some ad ∧ ∀ W, Below w.heap.size w W → ∀ j u, (strs (ns.drop k))[j]? = some u → W.cell? (ad.add j) = some u := by
          by_cases hck : c = k
          · refine ⟨_, if_pos hck, fun W hW j u hu => ?_⟩
            have := (List.getElem?_eq_some_iff.1 hu).1
            simp [strs] at this
            omega
          · refine ⟨_, if_neg hck, fun W hW j u hu => ?_⟩
            have hjl : k + j < ns.length := by have := (List.getElem?_eq_some_iff.1 hu).1; simp [strs] at this; omega
            have e : u = Value.string ns[k + j] := by simp [strs, hjl] at hu; exact hu.symm
            rw [e, add_plain, Nat.add_assoc]
            exact ((bcell hW).1 _ _ hlt).trans (hcell (k + j) ns[k + j] (by simp))
        have hkc : k ≤ c := by omega
        clear hcell
        have hmt : ¬ m.toList = x.toList := fun e => hmx2 (bytes_same e)
        have hme : (m.toList == x.toList) = false := by simpa using hmt
        have hme' : decide (m.toList = x.toList) = false := decide_eq_false hmt
        clear hin hm hI
        go_wp2_with fail
        refine wp_region_held_drew (S := fun _ => True) (by kernel_rfl) ?_ (fun hHeld => ?_)
        · trivial
        refine takeYes (i := 1) (d := 34) (v := ?_) rfl rfl (by kernel_rfl) (by kernel_rfl) (by kernel_rfl) (fun _ _ _ h => h) (by rfl) (by trivial) ?_ ?_
        rotate_left
        · intro w' _; go_simp; try exact rfl
        try simp only [List.setIfInBounds_toArray, List.set_cons_zero, List.set_cons_succ]
        refine takeYes (i := 2) (d := 35) (v := ?_) rfl rfl (by kernel_rfl) (by kernel_rfl) (by kernel_rfl) (fun _ _ _ h => h) (by rfl) (by trivial) ?_ ?_
        rotate_left
        · intro w' _; go_simp; try exact rfl
        try simp only [List.setIfInBounds_toArray, List.set_cons_zero, List.set_cons_succ]
        refine takeYes (i := 3) (d := 36) (v := ?_) rfl rfl (by kernel_rfl) (by kernel_rfl) (by kernel_rfl) (fun _ _ _ h => h) (by rfl) (by trivial) ?_ ?_
        rotate_left
        · intro w' _; go_simp; try exact rfl
        try simp only [List.setIfInBounds_toArray, List.set_cons_zero, List.set_cons_succ]
        refine takeYes (i := 5) (d := 38) (v := ?_) rfl rfl (by kernel_rfl) (by kernel_rfl) (by kernel_rfl) (fun _ _ _ h => h) (by rfl) (by trivial) ?_ ?_
        rotate_left
        · intro w' _; go_simp; try exact rfl
        try simp only [List.setIfInBounds_toArray, List.set_cons_zero, List.set_cons_succ]
        refine takeYes (i := 8) (d := 41) (v := ?_) rfl rfl (by kernel_rfl) (by kernel_rfl) (by kernel_rfl) (fun _ _ _ h => h) (by rfl) (by trivial) ?_ ?_
        rotate_left
        · intro w' _; go_simp; try exact rfl
        try simp only [List.setIfInBounds_toArray, List.set_cons_zero, List.set_cons_succ]
        refine takeYes (i := 9) (d := 42) (v := ?_) rfl rfl (by kernel_rfl) (by kernel_rfl) (by kernel_rfl) (fun _ _ _ h => h) (by rfl) (by trivial) ?_ ?_
        rotate_left
        · intro w' _; go_simp; try exact rfl
        try simp only [List.setIfInBounds_toArray, List.set_cons_zero, List.set_cons_succ]
        refine takeYes (i := 10) (d := 43) (v := ?_) rfl rfl (by kernel_rfl) (by kernel_rfl) (by kernel_rfl) (fun _ _ _ h => h) (by rfl) (by trivial) ?_ ?_
        rotate_left
        · intro w' _; go_simp; try exact rfl
        try simp only [List.setIfInBounds_toArray, List.set_cons_zero, List.set_cons_succ]
        refine wpAnyH_ready (rs := [0, 6]) (by kernel_rfl) (by simp) ?_
        refine AllReadyH.cons rfl (fun K hK => ?_) (AllReadyH.cons rfl (fun K hK => ?_) AllReadyH.nil)
        · go_simp
          refine hK.out _ _ ?_ (fun hHeld0 => ?_)
          · trivial
          clear hK hHeld0
          try simp only [List.setIfInBounds_toArray, List.set_cons_zero, List.set_cons_succ]
          refine wpAnyH_ready (rs := [4, 6]) (by kernel_rfl) (by simp) ?_
          refine AllReadyH.cons rfl (fun K hK => ?_) (AllReadyH.cons rfl (fun K hK => ?_) AllReadyH.nil)
          · have hO33 : (w.drew.alloc (.cells #[] 9)).ownsRow w.heap.size 9 1 (.slice (some ⟨w.heap.size, 0, none⟩) 0 0) 0 [] := ints_none rfl (Nat.le_refl _)
            have hBW : Below w.heap.size w (w.drew.alloc (.cells #[] 9)) := by repeat (first | (with_reducible exact Below.refl _ _) | (with_reducible refine Below.drew ?_) | (with_reducible refine Below.alloc ?_ ?hh _; case hh => first | (simp; done) | (simp; omega) | omega) | (with_reducible refine Below.setCell ?_ ?hh _; case hh => first | (simp; done) | (simp; omega) | omega) | refine bstep (by assumption) (by first | (simp; done) | (simp; omega) | omega) ?_)
            refine step_append_own _ (by rfl) _ _ 80 (by rfl) w.heap.size 9 i0 _ 1 16 Try.underlying80 hi hz0 hz1 hz2 rfl (by omega) (.slice (some ⟨w.heap.size, 0, none⟩) 0 0) 0 [] (by rfl) hO33 ⟨b, o, none⟩ k c (strs (ns.take k)) (by rfl) (by simp [strs]; omega) (fun j u hu => by rw [add_plain]; exact hcellT _ hBW j u hu) (strs_one _) (by unfold maxLen; omega) (by omega) (by simp; try omega) ?_
            intro v4 w4 hO4 hG4
            have hz4 := hG4.size
            (try simp at hz4)
            have hB4 : Below w.heap.size w w4 := hBW.grown hG4 (by simp; try omega) (fun q hq => by simp [Value.ownBlock] at hq; omega)
            refine hK.out _ _ ?_ (fun hHeld4 => ?_)
            · trivial
            clear hK hHeld4
            try simp only [List.setIfInBounds_toArray, List.set_cons_zero, List.set_cons_succ]
            refine wpAnyH_ready (rs := [6]) (by kernel_rfl) (by simp) ?_
            refine AllReadyH.cons rfl (fun K hK => ?_) AllReadyH.nil
            go_simp
            refine hK.out _ _ ?_ (fun hHeld6 => ?_)
            · trivial
            clear hK hHeld6
            try simp only [List.setIfInBounds_toArray, List.set_cons_zero, List.set_cons_succ]
            have hx4 : (w4.alloc (.cells #[.string x] 9)).cell? ⟨w4.heap.size, 0, none⟩ = some (.string x) := by go_simp
            replace hO4 := ownsE_keep (w' := w4.alloc (.cells #[.string x] 9)) hO4 fun q hq => Below.heap_alloc _ _ _ (ownsE_lt hO4 q hq).2
            replace hB4 : Below w.heap.size w (w4.alloc (.cells #[.string x] 9)) := hB4.alloc (by omega) _
            have hzz : (w4.alloc (.cells #[.string x] 9)).heap.size = w4.heap.size + 1 := by simp
            refine wpAnyH_ready (rs := [7]) (by kernel_rfl) (by simp) ?_
            refine AllReadyH.cons rfl (fun K hK => ?_) AllReadyH.nil
            refine step_append_own _ (by rfl) _ _ 80 (by rfl) w.heap.size 9 i0 _ 1 16 Try.underlying80 hi hz0 hz1 hz2 rfl (by omega) v4 (0 + k) ([] ++ strs (ns.take k)) (by rfl) hO4 ⟨w4.heap.size, 0, none⟩ 1 1 [.string x] (by rfl) (by rfl) (fun j u hu => by match j, hu with | 0, hu => simp at hu; subst hu; rw [add_plain]; exact hx4) (by simp [Value.oneCell']) (by unfold maxLen; omega) (by omega) (by omega) ?_
            intro v7 w7 hO7 hG7
            have hz7 := hG7.size
            have hB7 : Below w.heap.size w w7 := hB4.grown hG7 (by omega) (fun q hq => (ownsE_lt hO4 q hq).1)
            refine hK.out _ _ ?_ (fun hHeld7 => ?_)
            · trivial
            clear hK hHeld7
            try simp only [List.setIfInBounds_toArray, List.set_cons_zero, List.set_cons_succ]
            refine wpAnyH_ready (rs := [11]) (by kernel_rfl) (by simp) ?_
            refine AllReadyH.cons rfl (fun K hK => ?_) AllReadyH.nil
            refine step_append_own _ (by rfl) _ _ 80 (by rfl) w.heap.size 9 i0 _ 1 16 Try.underlying80 hi hz0 hz1 hz2 rfl (by omega) v7 (0 + k + 1) ([] ++ strs (ns.take k) ++ [.string x]) (by rfl) hO7 ad (ns.length - k) (c - k) (strs (ns.drop k)) (by rfl) (by simp [strs]) (fun j u hu => hcellD _ hB7 j u hu) (strs_one _) (by unfold maxLen; omega) (by omega) (by omega) ?_
            intro v11 w11 hO11 hG11
            have hB11 : Below w.heap.size w w11 := hB7.grown hG11 (by omega) (fun q hq => (ownsE_lt hO7 q hq).1)
            refine hK.out _ _ ?_ (fun hHeld11 => ?_)
            · trivial
            clear hK hHeld11
            try simp only [List.setIfInBounds_toArray, List.set_cons_zero, List.set_cons_succ]
            refine takeYes (i := 12) (d := 4) (v := ?_) rfl rfl (by kernel_rfl) (by kernel_rfl) (by kernel_rfl) (fun _ _ _ h => h) (by rfl) (by trivial) ?_ ?_
            rotate_left
            · intro w' _; go_simp; try exact rfl
            try simp only [List.setIfInBounds_toArray, List.set_cons_zero, List.set_cons_succ]
            refine wpAnyH_done (by kernel_rfl) ?_ _
            have HI : Hid (StrsI w11 v11 (addS ns x)) := by
              show StrsI _ _ _
              rw [addS_new hk hless hmore]
              exact strs_own (N := w.heap.size) (by simpa [strs, List.map_append] using hO11) (by simp; omega)
            obtain ⟨b', o', c', e', _⟩ := HI.out
            subst e'
            clear hO4 hO7 hO11 hG4 hG7 hG11 hHeld
            go_wp2
            refine bodyPost_ret (v := .slice (some ⟨b', o', none⟩) (addS ns x).length c') (by simp [results, Try.results114, go_sem]) rfl ⟨⟨_, rfl, HI.out⟩, hB11⟩
          · go_simp
            refine hK.out _ _ ?_ (fun hHeld6 => ?_)
            · trivial
            clear hK hHeld6
            try simp only [List.setIfInBounds_toArray, List.set_cons_zero, List.set_cons_succ]
            have hO33 : ((w.drew.alloc (.cells #[] 9)).alloc (.cells #[.string x] 9)).ownsRow w.heap.size 9 1 (.slice (some ⟨w.heap.size, 0, none⟩) 0 0) 0 [] := ownsE_keep (ints_none rfl (Nat.le_refl _)) fun q hq => Below.heap_alloc _ _ _ (by simp [Value.ownBlock] at hq; subst hq; simp)
            have hBW : Below w.heap.size w ((w.drew.alloc (.cells #[] 9)).alloc (.cells #[.string x] 9)) := by repeat (first | (with_reducible exact Below.refl _ _) | (with_reducible refine Below.drew ?_) | (with_reducible refine Below.alloc ?_ ?hh _; case hh => first | (simp; done) | (simp; omega) | omega) | (with_reducible refine Below.setCell ?_ ?hh _; case hh => first | (simp; done) | (simp; omega) | omega) | refine bstep (by assumption) (by first | (simp; done) | (simp; omega) | omega) ?_)
            have hx39 : ((w.drew.alloc (.cells #[] 9)).alloc (.cells #[.string x] 9)).cell? ⟨w.heap.size + 1, 0, none⟩ = some (.string x) := by go_simp
            refine wpAnyH_ready (rs := [4]) (by kernel_rfl) (by simp) ?_
            refine AllReadyH.cons rfl (fun K hK => ?_) AllReadyH.nil
            refine step_append_own _ (by rfl) _ _ 80 (by rfl) w.heap.size 9 i0 _ 1 16 Try.underlying80 hi hz0 hz1 hz2 rfl (by omega) (.slice (some ⟨w.heap.size, 0, none⟩) 0 0) 0 [] (by rfl) hO33 ⟨b, o, none⟩ k c (strs (ns.take k)) (by rfl) (by simp [strs]; omega) (fun j u hu => by rw [add_plain]; exact hcellT _ hBW j u hu) (strs_one _) (by unfold maxLen; omega) (by omega) (by simp; try omega) ?_
            intro v4 w4 hO4 hG4
            have hz4 := hG4.size
            (try simp at hz4)
            have hB4 : Below w.heap.size w w4 := hBW.grown hG4 (by simp; try omega) (fun q hq => by simp [Value.ownBlock] at hq; omega)
            have hx4 : w4.cell? ⟨w.heap.size + 1, 0, none⟩ = some (.string x) := (hG4.cell_far _ (by simp; try omega) (by simp [Value.ownBlock]; try omega)).trans hx39
            have hlt4 := ownsE_lt hO4
            refine hK.out _ _ ?_ (fun hHeld4 => ?_)
            · trivial
            clear hK hHeld4
            try simp only [List.setIfInBounds_toArray, List.set_cons_zero, List.set_cons_succ]
            refine wpAnyH_ready (rs := [7]) (by kernel_rfl) (by simp) ?_
            refine AllReadyH.cons rfl (fun K hK => ?_) AllReadyH.nil
            refine step_append_own _ (by rfl) _ _ 80 (by rfl) w.heap.size 9 i0 _ 1 16 Try.underlying80 hi hz0 hz1 hz2 rfl (by omega) v4 (0 + k) ([] ++ strs (ns.take k)) (by rfl) hO4 ⟨w.heap.size + 1, 0, none⟩ 1 1 [.string x] (by rfl) (by rfl) (fun j u hu => by match j, hu with | 0, hu => simp at hu; subst hu; rw [add_plain]; exact hx4) (by simp [Value.oneCell']) (by unfold maxLen; omega) (by omega) (by omega) ?_
            intro v7 w7 hO7 hG7
            have hz7 := hG7.size
            have hB7 : Below w.heap.size w w7 := hB4.grown hG7 (by omega) (fun q hq => (ownsE_lt hO4 q hq).1)
            refine hK.out _ _ ?_ (fun hHeld7 => ?_)
            · trivial
            clear hK hHeld7
            try simp only [List.setIfInBounds_toArray, List.set_cons_zero, List.set_cons_succ]
            refine wpAnyH_ready (rs := [11]) (by kernel_rfl) (by simp) ?_
            refine AllReadyH.cons rfl (fun K hK => ?_) AllReadyH.nil
            refine step_append_own _ (by rfl) _ _ 80 (by rfl) w.heap.size 9 i0 _ 1 16 Try.underlying80 hi hz0 hz1 hz2 rfl (by omega) v7 (0 + k + 1) ([] ++ strs (ns.take k) ++ [.string x]) (by rfl) hO7 ad (ns.length - k) (c - k) (strs (ns.drop k)) (by rfl) (by simp [strs]) (fun j u hu => hcellD _ hB7 j u hu) (strs_one _) (by unfold maxLen; omega) (by omega) (by omega) ?_
            intro v11 w11 hO11 hG11
            have hB11 : Below w.heap.size w w11 := hB7.grown hG11 (by omega) (fun q hq => (ownsE_lt hO7 q hq).1)
            refine hK.out _ _ ?_ (fun hHeld11 => ?_)
            · trivial
            clear hK hHeld11
            try simp only [List.setIfInBounds_toArray, List.set_cons_zero, List.set_cons_succ]
            refine takeYes (i := 12) (d := 4) (v := ?_) rfl rfl (by kernel_rfl) (by kernel_rfl) (by kernel_rfl) (fun _ _ _ h => h) (by rfl) (by trivial) ?_ ?_
            rotate_left
            · intro w' _; go_simp; try exact rfl
            try simp only [List.setIfInBounds_toArray, List.set_cons_zero, List.set_cons_succ]
            refine wpAnyH_done (by kernel_rfl) ?_ _
            have HI : Hid (StrsI w11 v11 (addS ns x)) := by
              show StrsI _ _ _
              rw [addS_new hk hless hmore]
              exact strs_own (N := w.heap.size) (by simpa [strs, List.map_append] using hO11) (by simp; omega)
            obtain ⟨b', o', c', e', _⟩ := HI.out
            subst e'
            clear hO4 hO7 hO11 hG4 hG7 hG11 hHeld
            go_wp2
            refine bodyPost_ret (v := .slice (some ⟨b', o', none⟩) (addS ns x).length c') (by simp [results, Try.results114, go_sem]) rfl ⟨⟨_, rfl, HI.out⟩, hB11⟩
        · go_simp
          refine hK.out _ _ ?_ (fun hHeld6 => ?_)
          · trivial
          clear hK hHeld6
          try simp only [List.setIfInBounds_toArray, List.set_cons_zero, List.set_cons_succ]
          refine wpAnyH_ready (rs := [0]) (by kernel_rfl) (by simp) ?_
          refine AllReadyH.cons rfl (fun K hK => ?_) AllReadyH.nil
          go_simp
          refine hK.out _ _ ?_ (fun hHeld0 => ?_)
          · trivial
          clear hK hHeld0
          try simp only [List.setIfInBounds_toArray, List.set_cons_zero, List.set_cons_succ]
          have hO33 : ((w.drew.alloc (.cells #[.string x] 9)).alloc (.cells #[] 9)).ownsRow w.heap.size 9 1 (.slice (some ⟨w.heap.size + 1, 0, none⟩) 0 0) 0 [] := ints_none (by simp) (by omega)
          have hBW : Below w.heap.size w ((w.drew.alloc (.cells #[.string x] 9)).alloc (.cells #[] 9)) := by repeat (first | (with_reducible exact Below.refl _ _) | (with_reducible refine Below.drew ?_) | (with_reducible refine Below.alloc ?_ ?hh _; case hh => first | (simp; done) | (simp; omega) | omega) | (with_reducible refine Below.setCell ?_ ?hh _; case hh => first | (simp; done) | (simp; omega) | omega) | refine bstep (by assumption) (by first | (simp; done) | (simp; omega) | omega) ?_)
          have hx39 : ((w.drew.alloc (.cells #[.string x] 9)).alloc (.cells #[] 9)).cell? ⟨w.heap.size, 0, none⟩ = some (.string x) := by go_simp
          refine wpAnyH_ready (rs := [4]) (by kernel_rfl) (by simp) ?_
          refine AllReadyH.cons rfl (fun K hK => ?_) AllReadyH.nil
          refine step_append_own _ (by rfl) _ _ 80 (by rfl) w.heap.size 9 i0 _ 1 16 Try.underlying80 hi hz0 hz1 hz2 rfl (by omega) (.slice (some ⟨w.heap.size + 1, 0, none⟩) 0 0) 0 [] (by rfl) hO33 ⟨b, o, none⟩ k c (strs (ns.take k)) (by rfl) (by simp [strs]; omega) (fun j u hu => by rw [add_plain]; exact hcellT _ hBW j u hu) (strs_one _) (by unfold maxLen; omega) (by omega) (by simp; try omega) ?_
          intro v4 w4 hO4 hG4
          have hz4 := hG4.size
          (try simp at hz4)
          have hB4 : Below w.heap.size w w4 := hBW.grown hG4 (by simp; try omega) (fun q hq => by simp [Value.ownBlock] at hq; omega)
          have hx4 : w4.cell? ⟨w.heap.size, 0, none⟩ = some (.string x) := (hG4.cell_far _ (by simp; try omega) (by simp [Value.ownBlock]; try omega)).trans hx39
          have hlt4 := ownsE_lt hO4
          refine hK.out _ _ ?_ (fun hHeld4 => ?_)
          · trivial
          clear hK hHeld4
          try simp only [List.setIfInBounds_toArray, List.set_cons_zero, List.set_cons_succ]
          refine wpAnyH_ready (rs := [7]) (by kernel_rfl) (by simp) ?_
          refine AllReadyH.cons rfl (fun K hK => ?_) AllReadyH.nil
          refine step_append_own _ (by rfl) _ _ 80 (by rfl) w.heap.size 9 i0 _ 1 16 Try.underlying80 hi hz0 hz1 hz2 rfl (by omega) v4 (0 + k) ([] ++ strs (ns.take k)) (by rfl) hO4 ⟨w.heap.size, 0, none⟩ 1 1 [.string x] (by rfl) (by rfl) (fun j u hu => by match j, hu with | 0, hu => simp at hu; subst hu; rw [add_plain]; exact hx4) (by simp [Value.oneCell']) (by unfold maxLen; omega) (by omega) (by omega) ?_
          intro v7 w7 hO7 hG7
          have hz7 := hG7.size
          have hB7 : Below w.heap.size w w7 := hB4.grown hG7 (by omega) (fun q hq => (ownsE_lt hO4 q hq).1)
          refine hK.out _ _ ?_ (fun hHeld7 => ?_)
          · trivial
          clear hK hHeld7
          try simp only [List.setIfInBounds_toArray, List.set_cons_zero, List.set_cons_succ]
          refine wpAnyH_ready (rs := [11]) (by kernel_rfl) (by simp) ?_
          refine AllReadyH.cons rfl (fun K hK => ?_) AllReadyH.nil
          refine step_append_own _ (by rfl) _ _ 80 (by rfl) w.heap.size 9 i0 _ 1 16 Try.underlying80 hi hz0 hz1 hz2 rfl (by omega) v7 (0 + k + 1) ([] ++ strs (ns.take k) ++ [.string x]) (by rfl) hO7 ad (ns.length - k) (c - k) (strs (ns.drop k)) (by rfl) (by simp [strs]) (fun j u hu => hcellD _ hB7 j u hu) (strs_one _) (by unfold maxLen; omega) (by omega) (by omega) ?_
          intro v11 w11 hO11 hG11
          have hB11 : Below w.heap.size w w11 := hB7.grown hG11 (by omega) (fun q hq => (ownsE_lt hO7 q hq).1)
          refine hK.out _ _ ?_ (fun hHeld11 => ?_)
          · trivial
          clear hK hHeld11
          try simp only [List.setIfInBounds_toArray, List.set_cons_zero, List.set_cons_succ]
          refine takeYes (i := 12) (d := 4) (v := ?_) rfl rfl (by kernel_rfl) (by kernel_rfl) (by kernel_rfl) (fun _ _ _ h => h) (by rfl) (by trivial) ?_ ?_
          rotate_left
          · intro w' _; go_simp; try exact rfl
          try simp only [List.setIfInBounds_toArray, List.set_cons_zero, List.set_cons_succ]
          refine wpAnyH_done (by kernel_rfl) ?_ _
          have HI : Hid (StrsI w11 v11 (addS ns x)) := by
            show StrsI _ _ _
            rw [addS_new hk hless hmore]
            exact strs_own (N := w.heap.size) (by simpa [strs, List.map_append] using hO11) (by simp; omega)
          obtain ⟨b', o', c', e', _⟩ := HI.out
          subst e'
          clear hO4 hO7 hO11 hG4 hG7 hG11 hHeld
          go_wp2
          refine bodyPost_ret (v := .slice (some ⟨b', o', none⟩) (addS ns x).length c') (by simp [results, Try.results114, go_sem]) rfl ⟨⟨_, rfl, HI.out⟩, hB11⟩
    · have hmore : ∀ n, ns[k]? = some n → lessS x n := fun n hn => by rw [List.getElem?_eq_none (by omega)] at hn; cases hn
      have hcellT : ∀ W, Below w.heap.size w W → ∀ j u, (strs (ns.take k))[j]? = some u → W.cell? ⟨b, o + j, none⟩ = some u := by
        intro W hW j u hu
        have hj : j < k := by have := (List.getElem?_eq_some_iff.1 hu).1; simp [strs] at this; omega
        have hjl : j < ns.length := by omega
        have e : u = Value.string ns[j] := by simp [strs, hj, hjl] at hu; exact hu.symm
        rw [e]
        exact ((bcell hW).1 _ _ hlt).trans (hcell j ns[j] (by simp))
      obtain ⟨ad, hif, hcellD⟩ : ∃ ad : Addr, (if c = k then some (⟨b, o, none⟩ : Addr) else some ⟨b, o + k, none⟩) = some ad ∧ ∀ W, Below w.heap.size w W → ∀ j u, (strs (ns.drop k))[j]? = some u → W.cell? (ad.add j) = some u := by
        by_cases hck : c = k
        · refine ⟨_, if_pos hck, fun W hW j u hu => ?_⟩
          have := (List.getElem?_eq_some_iff.1 hu).1
          simp [strs] at this
          omega
        · refine ⟨_, if_neg hck, fun W hW j u hu => ?_⟩
          have hjl : k + j < ns.length := by have := (List.getElem?_eq_some_iff.1 hu).1; simp [strs] at this; omega
          have e : u = Value.string ns[k + j] := by simp [strs, hjl] at hu; exact hu.symm
          rw [e, add_plain, Nat.add_assoc]
          exact ((bcell hW).1 _ _ hlt).trans (hcell (k + j) ns[k + j] (by simp))
      have hkc : k ≤ c := by omega
      clear hcell
      clear hin hI
      go_wp2_with fail
      refine wp_region_held_drew (S := fun _ => True) (by kernel_rfl) ?_ (fun hHeld => ?_)
      · trivial
      refine takeYes (i := 1) (d := 34) (v := ?_) rfl rfl (by kernel_rfl) (by kernel_rfl) (by kernel_rfl) (fun _ _ _ h => h) (by rfl) (by trivial) ?_ ?_
      rotate_left
      · intro w' _; go_simp; try exact rfl
      try simp only [List.setIfInBounds_toArray, List.set_cons_zero, List.set_cons_succ]
      refine takeYes (i := 2) (d := 35) (v := ?_) rfl rfl (by kernel_rfl) (by kernel_rfl) (by kernel_rfl) (fun _ _ _ h => h) (by rfl) (by trivial) ?_ ?_
      rotate_left
      · intro w' _; go_simp; try exact rfl
      try simp only [List.setIfInBounds_toArray, List.set_cons_zero, List.set_cons_succ]
      refine takeYes (i := 3) (d := 36) (v := ?_) rfl rfl (by kernel_rfl) (by kernel_rfl) (by kernel_rfl) (fun _ _ _ h => h) (by rfl) (by trivial) ?_ ?_
      rotate_left
      · intro w' _; go_simp; try exact rfl
      try simp only [List.setIfInBounds_toArray, List.set_cons_zero, List.set_cons_succ]
      refine takeYes (i := 5) (d := 38) (v := ?_) rfl rfl (by kernel_rfl) (by kernel_rfl) (by kernel_rfl) (fun _ _ _ h => h) (by rfl) (by trivial) ?_ ?_
      rotate_left
      · intro w' _; go_simp; try exact rfl
      try simp only [List.setIfInBounds_toArray, List.set_cons_zero, List.set_cons_succ]
      refine takeYes (i := 8) (d := 41) (v := ?_) rfl rfl (by kernel_rfl) (by kernel_rfl) (by kernel_rfl) (fun _ _ _ h => h) (by rfl) (by trivial) ?_ ?_
      rotate_left
      · intro w' _; go_simp; try exact rfl
      try simp only [List.setIfInBounds_toArray, List.set_cons_zero, List.set_cons_succ]
      refine takeYes (i := 9) (d := 42) (v := ?_) rfl rfl (by kernel_rfl) (by kernel_rfl) (by kernel_rfl) (fun _ _ _ h => h) (by rfl) (by trivial) ?_ ?_
      rotate_left
      · intro w' _; go_simp; try exact rfl
      try simp only [List.setIfInBounds_toArray, List.set_cons_zero, List.set_cons_succ]
      refine takeYes (i := 10) (d := 43) (v := ?_) rfl rfl (by kernel_rfl) (by kernel_rfl) (by kernel_rfl) (fun _ _ _ h => h) (by rfl) (by trivial) ?_ ?_
      rotate_left
      · intro w' _; go_simp; try exact rfl
      try simp only [List.setIfInBounds_toArray, List.set_cons_zero, List.set_cons_succ]
      refine wpAnyH_ready (rs := [0, 6]) (by kernel_rfl) (by simp) ?_
      refine AllReadyH.cons rfl (fun K hK => ?_) (AllReadyH.cons rfl (fun K hK => ?_) AllReadyH.nil)
      · go_simp
        refine hK.out _ _ ?_ (fun hHeld0 => ?_)
        · trivial
        clear hK hHeld0
        try simp only [List.setIfInBounds_toArray, List.set_cons_zero, List.set_cons_succ]
        refine wpAnyH_ready (rs := [4, 6]) (by kernel_rfl) (by simp) ?_
        refine AllReadyH.cons rfl (fun K hK => ?_) (AllReadyH.cons rfl (fun K hK => ?_) AllReadyH.nil)
        · have hO33 : (w.drew.alloc (.cells #[] 9)).ownsRow w.heap.size 9 1 (.slice (some ⟨w.heap.size, 0, none⟩) 0 0) 0 [] := ints_none rfl (Nat.le_refl _)
          have hBW : Below w.heap.size w (w.drew.alloc (.cells #[] 9)) := by repeat (first | (with_reducible exact Below.refl _ _) | (with_reducible refine Below.drew ?_) | (with_reducible refine Below.alloc ?_ ?hh _; case hh => first | (simp; done) | (simp; omega) | omega) | (with_reducible refine Below.setCell ?_ ?hh _; case hh => first | (simp; done) | (simp; omega) | omega) | refine bstep (by assumption) (by first | (simp; done) | (simp; omega) | omega) ?_)
          refine step_append_own _ (by rfl) _ _ 80 (by rfl) w.heap.size 9 i0 _ 1 16 Try.underlying80 hi hz0 hz1 hz2 rfl (by omega) (.slice (some ⟨w.heap.size, 0, none⟩) 0 0) 0 [] (by rfl) hO33 ⟨b, o, none⟩ k c (strs (ns.take k)) (by rfl) (by simp [strs]; omega) (fun j u hu => by rw [add_plain]; exact hcellT _ hBW j u hu) (strs_one _) (by unfold maxLen; omega) (by omega) (by simp; try omega) ?_
          intro v4 w4 hO4 hG4
          have hz4 := hG4.size
          (try simp at hz4)
          have hB4 : Below w.heap.size w w4 := hBW.grown hG4 (by simp; try omega) (fun q hq => by simp [Value.ownBlock] at hq; omega)
          refine hK.out _ _ ?_ (fun hHeld4 => ?_)
          · trivial
          clear hK hHeld4
          try simp only [List.setIfInBounds_toArray, List.set_cons_zero, List.set_cons_succ]
          refine wpAnyH_ready (rs := [6]) (by kernel_rfl) (by simp) ?_
          refine AllReadyH.cons rfl (fun K hK => ?_) AllReadyH.nil
          go_simp
          refine hK.out _ _ ?_ (fun hHeld6 => ?_)
          · trivial
          clear hK hHeld6
          try simp only [List.setIfInBounds_toArray, List.set_cons_zero, List.set_cons_succ]
          have hx4 : (w4.alloc (.cells #[.string x] 9)).cell? ⟨w4.heap.size, 0, none⟩ = some (.string x) := by go_simp
          replace hO4 := ownsE_keep (w' := w4.alloc (.cells #[.string x] 9)) hO4 fun q hq => Below.heap_alloc _ _ _ (ownsE_lt hO4 q hq).2
          replace hB4 : Below w.heap.size w (w4.alloc (.cells #[.string x] 9)) := hB4.alloc (by omega) _
          have hzz : (w4.alloc (.cells #[.string x] 9)).heap.size = w4.heap.size + 1 := by simp
          refine wpAnyH_ready (rs := [7]) (by kernel_rfl) (by simp) ?_
          refine AllReadyH.cons rfl (fun K hK => ?_) AllReadyH.nil
          refine step_append_own _ (by rfl) _ _ 80 (by rfl) w.heap.size 9 i0 _ 1 16 Try.underlying80 hi hz0 hz1 hz2 rfl (by omega) v4 (0 + k) ([] ++ strs (ns.take k)) (by rfl) hO4 ⟨w4.heap.size, 0, none⟩ 1 1 [.string x] (by rfl) (by rfl) (fun j u hu => by match j, hu with | 0, hu => simp at hu; subst hu; rw [add_plain]; exact hx4) (by simp [Value.oneCell']) (by unfold maxLen; omega) (by omega) (by omega) ?_
          intro v7 w7 hO7 hG7
          have hz7 := hG7.size
          have hB7 : Below w.heap.size w w7 := hB4.grown hG7 (by omega) (fun q hq => (ownsE_lt hO4 q hq).1)
          refine hK.out _ _ ?_ (fun hHeld7 => ?_)
          · trivial
          clear hK hHeld7
          try simp only [List.setIfInBounds_toArray, List.set_cons_zero, List.set_cons_succ]
          refine wpAnyH_ready (rs := [11]) (by kernel_rfl) (by simp) ?_
          refine AllReadyH.cons rfl (fun K hK => ?_) AllReadyH.nil
          refine step_append_own _ (by rfl) _ _ 80 (by rfl) w.heap.size 9 i0 _ 1 16 Try.underlying80 hi hz0 hz1 hz2 rfl (by omega) v7 (0 + k + 1) ([] ++ strs (ns.take k) ++ [.string x]) (by rfl) hO7 ad (ns.length - k) (c - k) (strs (ns.drop k)) (by rfl) (by simp [strs]) (fun j u hu => hcellD _ hB7 j u hu) (strs_one _) (by unfold maxLen; omega) (by omega) (by omega) ?_
          intro v11 w11 hO11 hG11
          have hB11 : Below w.heap.size w w11 := hB7.grown hG11 (by omega) (fun q hq => (ownsE_lt hO7 q hq).1)
          refine hK.out _ _ ?_ (fun hHeld11 => ?_)
          · trivial
          clear hK hHeld11
          try simp only [List.setIfInBounds_toArray, List.set_cons_zero, List.set_cons_succ]
          refine takeYes (i := 12) (d := 4) (v := ?_) rfl rfl (by kernel_rfl) (by kernel_rfl) (by kernel_rfl) (fun _ _ _ h => h) (by rfl) (by trivial) ?_ ?_
          rotate_left
          · intro w' _; go_simp; try exact rfl
          try simp only [List.setIfInBounds_toArray, List.set_cons_zero, List.set_cons_succ]
          refine wpAnyH_done (by kernel_rfl) ?_ _
          have HI : Hid (StrsI w11 v11 (addS ns x)) := by
            show StrsI _ _ _
            rw [addS_new hk hless hmore]
            exact strs_own (N := w.heap.size) (by simpa [strs, List.map_append] using hO11) (by simp; omega)
          obtain ⟨b', o', c', e', _⟩ := HI.out
          subst e'
          clear hO4 hO7 hO11 hG4 hG7 hG11 hHeld
          go_wp2
          refine bodyPost_ret (v := .slice (some ⟨b', o', none⟩) (addS ns x).length c') (by simp [results, Try.results114, go_sem]) rfl ⟨⟨_, rfl, HI.out⟩, hB11⟩
        · go_simp
          refine hK.out _ _ ?_ (fun hHeld6 => ?_)
          · trivial
          clear hK hHeld6
          try simp only [List.setIfInBounds_toArray, List.set_cons_zero, List.set_cons_succ]
          have hO33 : ((w.drew.alloc (.cells #[] 9)).alloc (.cells #[.string x] 9)).ownsRow w.heap.size 9 1 (.slice (some ⟨w.heap.size, 0, none⟩) 0 0) 0 [] := ownsE_keep (ints_none rfl (Nat.le_refl _)) fun q hq => Below.heap_alloc _ _ _ (by simp [Value.ownBlock] at hq; subst hq; simp)
          have hBW : Below w.heap.size w ((w.drew.alloc (.cells #[] 9)).alloc (.cells #[.string x] 9)) := by repeat (first | (with_reducible exact Below.refl _ _) | (with_reducible refine Below.drew ?_) | (with_reducible refine Below.alloc ?_ ?hh _; case hh => first | (simp; done) | (simp; omega) | omega) | (with_reducible refine Below.setCell ?_ ?hh _; case hh => first | (simp; done) | (simp; omega) | omega) | refine bstep (by assumption) (by first | (simp; done) | (simp; omega) | omega) ?_)
          have hx39 : ((w.drew.alloc (.cells #[] 9)).alloc (.cells #[.string x] 9)).cell? ⟨w.heap.size + 1, 0, none⟩ = some (.string x) := by go_simp
          refine wpAnyH_ready (rs := [4]) (by kernel_rfl) (by simp) ?_
          refine AllReadyH.cons rfl (fun K hK => ?_) AllReadyH.nil
          refine step_append_own _ (by rfl) _ _ 80 (by rfl) w.heap.size 9 i0 _ 1 16 Try.underlying80 hi hz0 hz1 hz2 rfl (by omega) (.slice (some ⟨w.heap.size, 0, none⟩) 0 0) 0 [] (by rfl) hO33 ⟨b, o, none⟩ k c (strs (ns.take k)) (by rfl) (by simp [strs]; omega) (fun j u hu => by rw [add_plain]; exact hcellT _ hBW j u hu) (strs_one _) (by unfold maxLen; omega) (by omega) (by simp; try omega) ?_
          intro v4 w4 hO4 hG4
          have hz4 := hG4.size
          (try simp at hz4)
          have hB4 : Below w.heap.size w w4 := hBW.grown hG4 (by simp; try omega) (fun q hq => by simp [Value.ownBlock] at hq; omega)
          have hx4 : w4.cell? ⟨w.heap.size + 1, 0, none⟩ = some (.string x) := (hG4.cell_far _ (by simp; try omega) (by simp [Value.ownBlock]; try omega)).trans hx39
          have hlt4 := ownsE_lt hO4
          refine hK.out _ _ ?_ (fun hHeld4 => ?_)
          · trivial
          clear hK hHeld4
          try simp only [List.setIfInBounds_toArray, List.set_cons_zero, List.set_cons_succ]
          refine wpAnyH_ready (rs := [7]) (by kernel_rfl) (by simp) ?_
          refine AllReadyH.cons rfl (fun K hK => ?_) AllReadyH.nil
          refine step_append_own _ (by rfl) _ _ 80 (by rfl) w.heap.size 9 i0 _ 1 16 Try.underlying80 hi hz0 hz1 hz2 rfl (by omega) v4 (0 + k) ([] ++ strs (ns.take k)) (by rfl) hO4 ⟨w.heap.size + 1, 0, none⟩ 1 1 [.string x] (by rfl) (by rfl) (fun j u hu => by match j, hu with | 0, hu => simp at hu; subst hu; rw [add_plain]; exact hx4) (by simp [Value.oneCell']) (by unfold maxLen; omega) (by omega) (by omega) ?_
          intro v7 w7 hO7 hG7
          have hz7 := hG7.size
          have hB7 : Below w.heap.size w w7 := hB4.grown hG7 (by omega) (fun q hq => (ownsE_lt hO4 q hq).1)
          refine hK.out _ _ ?_ (fun hHeld7 => ?_)
          · trivial
          clear hK hHeld7
          try simp only [List.setIfInBounds_toArray, List.set_cons_zero, List.set_cons_succ]
          refine wpAnyH_ready (rs := [11]) (by kernel_rfl) (by simp) ?_
          refine AllReadyH.cons rfl (fun K hK => ?_) AllReadyH.nil
          refine step_append_own _ (by rfl) _ _ 80 (by rfl) w.heap.size 9 i0 _ 1 16 Try.underlying80 hi hz0 hz1 hz2 rfl (by omega) v7 (0 + k + 1) ([] ++ strs (ns.take k) ++ [.string x]) (by rfl) hO7 ad (ns.length - k) (c - k) (strs (ns.drop k)) (by rfl) (by simp [strs]) (fun j u hu => hcellD _ hB7 j u hu) (strs_one _) (by unfold maxLen; omega) (by omega) (by omega) ?_
          intro v11 w11 hO11 hG11
          have hB11 : Below w.heap.size w w11 := hB7.grown hG11 (by omega) (fun q hq => (ownsE_lt hO7 q hq).1)
          refine hK.out _ _ ?_ (fun hHeld11 => ?_)
          · trivial
          clear hK hHeld11
          try simp only [List.setIfInBounds_toArray, List.set_cons_zero, List.set_cons_succ]
          refine takeYes (i := 12) (d := 4) (v := ?_) rfl rfl (by kernel_rfl) (by kernel_rfl) (by kernel_rfl) (fun _ _ _ h => h) (by rfl) (by trivial) ?_ ?_
          rotate_left
          · intro w' _; go_simp; try exact rfl
          try simp only [List.setIfInBounds_toArray, List.set_cons_zero, List.set_cons_succ]
          refine wpAnyH_done (by kernel_rfl) ?_ _
          have HI : Hid (StrsI w11 v11 (addS ns x)) := by
            show StrsI _ _ _
            rw [addS_new hk hless hmore]
            exact strs_own (N := w.heap.size) (by simpa [strs, List.map_append] using hO11) (by simp; omega)
          obtain ⟨b', o', c', e', _⟩ := HI.out
          subst e'
          clear hO4 hO7 hO11 hG4 hG7 hG11 hHeld
          go_wp2
          refine bodyPost_ret (v := .slice (some ⟨b', o', none⟩) (addS ns x).length c') (by simp [results, Try.results114, go_sem]) rfl ⟨⟨_, rfl, HI.out⟩, hB11⟩
      · go_simp
        refine hK.out _ _ ?_ (fun hHeld6 => ?_)
        · trivial
        clear hK hHeld6
        try simp only [List.setIfInBounds_toArray, List.set_cons_zero, List.set_cons_succ]
        refine wpAnyH_ready (rs := [0]) (by kernel_rfl) (by simp) ?_
        refine AllReadyH.cons rfl (fun K hK => ?_) AllReadyH.nil
        go_simp
        refine hK.out _ _ ?_ (fun hHeld0 => ?_)
        · trivial
        clear hK hHeld0
        try simp only [List.setIfInBounds_toArray, List.set_cons_zero, List.set_cons_succ]
        have hO33 : ((w.drew.alloc (.cells #[.string x] 9)).alloc (.cells #[] 9)).ownsRow w.heap.size 9 1 (.slice (some ⟨w.heap.size + 1, 0, none⟩) 0 0) 0 [] := ints_none (by simp) (by omega)
        have hBW : Below w.heap.size w ((w.drew.alloc (.cells #[.string x] 9)).alloc (.cells #[] 9)) := by repeat (first | (with_reducible exact Below.refl _ _) | (with_reducible refine Below.drew ?_) | (with_reducible refine Below.alloc ?_ ?hh _; case hh => first | (simp; done) | (simp; omega) | omega) | (with_reducible refine Below.setCell ?_ ?hh _; case hh => first | (simp; done) | (simp; omega) | omega) | refine bstep (by assumption) (by first | (simp; done) | (simp; omega) | omega) ?_)
        have hx39 : ((w.drew.alloc (.cells #[.string x] 9)).alloc (.cells #[] 9)).cell? ⟨w.heap.size, 0, none⟩ = some (.string x) := by go_simp
        refine wpAnyH_ready (rs := [4]) (by kernel_rfl) (by simp) ?_
        refine AllReadyH.cons rfl (fun K hK => ?_) AllReadyH.nil
        refine step_append_own _ (by rfl) _ _ 80 (by rfl) w.heap.size 9 i0 _ 1 16 Try.underlying80 hi hz0 hz1 hz2 rfl (by omega) (.slice (some ⟨w.heap.size + 1, 0, none⟩) 0 0) 0 [] (by rfl) hO33 ⟨b, o, none⟩ k c (strs (ns.take k)) (by rfl) (by simp [strs]; omega) (fun j u hu => by rw [add_plain]; exact hcellT _ hBW j u hu) (strs_one _) (by unfold maxLen; omega) (by omega) (by simp; try omega) ?_
        intro v4 w4 hO4 hG4
        have hz4 := hG4.size
        (try simp at hz4)
        have hB4 : Below w.heap.size w w4 := hBW.grown hG4 (by simp; try omega) (fun q hq => by simp [Value.ownBlock] at hq; omega)
        have hx4 : w4.cell? ⟨w.heap.size, 0, none⟩ = some (.string x) := (hG4.cell_far _ (by simp; try omega) (by simp [Value.ownBlock]; try omega)).trans hx39
        have hlt4 := ownsE_lt hO4
        refine hK.out _ _ ?_ (fun hHeld4 => ?_)
        · trivial
        clear hK hHeld4
        try simp only [List.setIfInBounds_toArray, List.set_cons_zero, List.set_cons_succ]
        refine wpAnyH_ready (rs := [7]) (by kernel_rfl) (by simp) ?_
        refine AllReadyH.cons rfl (fun K hK => ?_) AllReadyH.nil
        refine step_append_own _ (by rfl) _ _ 80 (by rfl) w.heap.size 9 i0 _ 1 16 Try.underlying80 hi hz0 hz1 hz2 rfl (by omega) v4 (0 + k) ([] ++ strs (ns.take k)) (by rfl) hO4 ⟨w.heap.size, 0, none⟩ 1 1 [.string x] (by rfl) (by rfl) (fun j u hu => by match j, hu with | 0, hu => simp at hu; subst hu; rw [add_plain]; exact hx4) (by simp [Value.oneCell']) (by unfold maxLen; omega) (by omega) (by omega) ?_
        intro v7 w7 hO7 hG7
        have hz7 := hG7.size
        have hB7 : Below w.heap.size w w7 := hB4.grown hG7 (by omega) (fun q hq => (ownsE_lt hO4 q hq).1)
        refine hK.out _ _ ?_ (fun hHeld7 => ?_)
        · trivial
        clear hK hHeld7
        try simp only [List.setIfInBounds_toArray, List.set_cons_zero, List.set_cons_succ]
        refine wpAnyH_ready (rs := [11]) (by kernel_rfl) (by simp) ?_
        refine AllReadyH.cons rfl (fun K hK => ?_) AllReadyH.nil
        refine step_append_own _ (by rfl) _ _ 80 (by rfl) w.heap.size 9 i0 _ 1 16 Try.underlying80 hi hz0 hz1 hz2 rfl (by omega) v7 (0 + k + 1) ([] ++ strs (ns.take k) ++ [.string x]) (by rfl) hO7 ad (ns.length - k) (c - k) (strs (ns.drop k)) (by rfl) (by simp [strs]) (fun j u hu => hcellD _ hB7 j u hu) (strs_one _) (by unfold maxLen; omega) (by omega) (by omega) ?_
        intro v11 w11 hO11 hG11
        have hB11 : Below w.heap.size w w11 := hB7.grown hG11 (by omega) (fun q hq => (ownsE_lt hO7 q hq).1)
        refine hK.out _ _ ?_ (fun hHeld11 => ?_)
        · trivial
        clear hK hHeld11
        try simp only [List.setIfInBounds_toArray, List.set_cons_zero, List.set_cons_succ]
        refine takeYes (i := 12) (d := 4) (v := ?_) rfl rfl (by kernel_rfl) (by kernel_rfl) (by kernel_rfl) (fun _ _ _ h => h) (by rfl) (by trivial) ?_ ?_
        rotate_left
        · intro w' _; go_simp; try exact rfl
        try simp only [List.setIfInBounds_toArray, List.set_cons_zero, List.set_cons_succ]
        refine wpAnyH_done (by kernel_rfl) ?_ _
        have HI : Hid (StrsI w11 v11 (addS ns x)) := by
          show StrsI _ _ _
          rw [addS_new hk hless hmore]
          exact strs_own (N := w.heap.size) (by simpa [strs, List.map_append] using hO11) (by simp; omega)
        obtain ⟨b', o', c', e', _⟩ := HI.out
        subst e'
        clear hO4 hO7 hO11 hG4 hG7 hG11 hHeld
        go_wp2
        refine bodyPost_ret (v := .slice (some ⟨b', o', none⟩) (addS ns x).length c') (by simp [results, Try.results114, go_sem]) rfl ⟨⟨_, rfl, HI.out⟩, hB11⟩
end Go.Proofs.Ytjhcachbaebhfaa
