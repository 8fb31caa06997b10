/- Own text. The contract of impl.Negate. -/
import Derived.Test.YtnbcmkbkiebbdaaRelF
import Derived.Test.YtnbcmkbkiebbdaaToR
import Derived.Test.YtnbcmkbkiebbdaaTimesS
import Derived.Test.YtnbcmkbkiebbdaaLastE
import Derived.Test.YtnbcmkbkiebbdaaNegS
import Derived.Handy
import Derived.Deep.DrawnRows
import Derived.Deep.AppendLies
namespace Go.Proofs.Ytnbcmkbkiebbdaa
open Go.RowKit Go.Deep
set_option linter.unusedVariables false
attribute [local go_sem ↓] Go.wp_at_zero Go.wp_at_succ
set_option maxHeartbeats 4000000 in
set_option maxRecDepth 100000 in
theorem implNegate_any (v : Value) (rs : List R3) (F : List Nat) (w : World) (hw : RsWf rs) (hr : RelsF w v rs F) (hn : wtR rs ≤ 1048576) :
    Calls Try.prog 62 #[v] w fun e w' => (∃ u F', e = .returned u ∧ RelsF w' u (negL rs) F' ∧ Own w' w.heap.size F') ∧ Below w.heap.size w w' := by
  obtain ⟨i0, hi, hz0, hz1, hz2⟩ := info_parts Try.infoRel
  obtain ⟨a, c, b, o, G0, rfl, hl, hc, _, hG0, _, hC, ha⟩ := hr.pick
  unfold maxLen at hc
  clear hr
  have hn1 : rs.length ≤ 1048576 := by unfold wtR at hn; omega
  go_enter Try.func62, Try.ntmps62
  go_wp2
  go_loopw [3, 9] (fun y i wr => ∃ (k : Nat) (us : List Value) (G : List (List Nat)), k ≤ rs.length ∧ i = .int .i64 k ∧ RelOwn wr w.heap.size y (negL (rs.take k)) us G ∧ Below w.heap.size w wr) (fun _ i _ => rs.length - (intOf i).toNat)
  case atStart =>
    refine ⟨0, [], [], Nat.zero_le _, rfl, ?_, by repeat (first | (with_reducible exact Below.refl _ _) | (with_reducible refine Below.drew ?_) | (with_reducible refine Below.alloc ?_ ?hh _; case hh => first | (simp; done) | (simp; omega) | omega) | (with_reducible refine Below.setCell ?_ ?hh _; case hh => first | (simp; done) | (simp; omega) | omega) | refine bstep (by assumption) (by first | (simp; done) | (simp; omega) | omega) ?_)⟩
    exact RelOwn.empty' (by simp)
  case round =>
    obtain ⟨k, us, G, hk, rfl, hB, hb⟩ := hrel
    have hzb := hb.size
    by_cases hlt : k < rs.length
    · obtain ⟨rfl, hblt, _⟩ := ha k hlt
      obtain ⟨x, u, g, hx, c0, c1, c2, hR, hbr⟩ := hC.at hG0 hblt hb hlt
      obtain ⟨au, lu, cu, rfl⟩ := hR.is.shape
      have hxm := List.mem_of_getElem? hx
      obtain ⟨_, _, hxw⟩ := hw x hxm
      have hxn : wtb x.cs ≤ 1048576 := by have := wtr_mem hxm; unfold wtr at this; unfold wtR at hn; omega
      have hvl := ownsRow_lt hB.own
      have hvb : u3.ownBlock ≠ some b := fun e => by have := (hvl _ e).1; omega
      have hvT : u3.ownBlock ≠ some wr.heap.size := fun e => by have := (hvl _ e).2; omega
      have hGl := hB.lt
      have htk : (negL (rs.take k)).length = k := by rw [negL_len]; simp; omega
      have HT : Hid (negL (rs.take (k + 1)) = negL (rs.take k) ++ [negR x]) := negL_take hx
      generalize negL (rs.take k) = ct at *
      have hml : ct.length + 1 ≤ maxLen := by unfold maxLen; omega
      have hby : (ct.length + 1) * 48 ≤ 140737488355328 := by omega
      clear ha hC hx htk hvl hw
      go_wp2_with fail
      refine startE 9 (fun w' => w'.cell? ⟨wr.heap.size, 0, none⟩ = some (.string x.s) ∧ w'.cell? ⟨wr.heap.size, 1, none⟩ = some (.int .i64 x.W) ∧ w'.cell? ⟨wr.heap.size, 2, none⟩ = some (.slice au lu cu)) (by kernel_rfl) ?_ (fun hHeld => ?_)
      · (try dsimp only)
        exact ⟨by go_simp, by go_simp, by go_simp⟩
      refine takeE (i := 0) (d := 13) (v := ?_) rfl rfl (by kernel_rfl) (by kernel_rfl) (by kernel_rfl) (by kernel_rfl) (fun _ _ _ h => h) (by rfl) (by assumption) ?_ ?_
      rotate_left
      · intro w' hSw; (try dsimp only at hSw); go_simp; try exact rfl
      try simp only [List.setIfInBounds_toArray, List.set_cons_zero, List.set_cons_succ]
      refine takeE (i := 1) (d := 14) (v := ?_) rfl rfl (by kernel_rfl) (by kernel_rfl) (by kernel_rfl) (by kernel_rfl) (fun _ _ _ h => h) (by rfl) (by assumption) ?_ ?_
      rotate_left
      · intro w' hSw; (try dsimp only at hSw); go_simp; try exact rfl
      try simp only [List.setIfInBounds_toArray, List.set_cons_zero, List.set_cons_succ]
      refine takeE (i := 2) (d := 15) (v := ?_) rfl rfl (by kernel_rfl) (by kernel_rfl) (by kernel_rfl) (by kernel_rfl) (fun _ _ _ h => h) (by rfl) (by assumption) ?_ ?_
      rotate_left
      · intro w' hSw; (try dsimp only at hSw); go_simp; try exact rfl
      try simp only [List.setIfInBounds_toArray, List.set_cons_zero, List.set_cons_succ]
      refine takeE (i := 3) (d := 16) (v := ?_) rfl rfl (by kernel_rfl) (by kernel_rfl) (by kernel_rfl) (by kernel_rfl) (fun _ _ _ h => h) (by rfl) (by assumption) ?_ ?_
      rotate_left
      · intro w' hSw; (try dsimp only at hSw); go_simp; try exact rfl
      try simp only [List.setIfInBounds_toArray, List.set_cons_zero, List.set_cons_succ]
      refine takeE (i := 4) (d := 17) (v := ?_) rfl rfl (by kernel_rfl) (by kernel_rfl) (by kernel_rfl) (by kernel_rfl) (fun _ _ _ h => h) (by rfl) (by assumption) ?_ ?_
      rotate_left
      · intro w' hSw; (try dsimp only at hSw); go_simp; try exact rfl
      try simp only [List.setIfInBounds_toArray, List.set_cons_zero, List.set_cons_succ]
      refine oneE (i := 5) (by kernel_rfl) rfl (fun K hK => ?_)
      go_simp
      go_at_call 124
      refine Calls.mono (implTimes_any x.W (-1) (.slice au lu cu) x.cs g _ hxw (by unfold In64; omega) (hR.below ?hbb) hxn) ?_
      case hbb => repeat (first | (with_reducible exact Below.refl _ _) | (with_reducible refine Below.drew ?_) | (with_reducible refine Below.alloc ?_ ?hh _; case hh => first | (simp; done) | (simp; omega) | omega) | (with_reducible refine Below.setCell ?_ ?hh _; case hh => first | (simp; done) | (simp; omega) | omega) | refine bstep (by assumption) (by first | (simp; done) | (simp; omega) | omega) ?_)
      rintro e w2 ⟨⟨u2, g2, rfl, hR2, hO2⟩, hb2⟩
      obtain ⟨a2, l2, n2, rfl⟩ := hR2.is.shape
      have hzw2 := hb2.size
      (try simp at hzw2)
      (try simp at hO2)
      have bel2 : Below wr.heap.size wr w2 := by repeat (first | (with_reducible exact Below.refl _ _) | (with_reducible refine Below.drew ?_) | (with_reducible refine Below.alloc ?_ ?hh _; case hh => first | (simp; done) | (simp; omega) | omega) | (with_reducible refine Below.setCell ?_ ?hh _; case hh => first | (simp; done) | (simp; omega) | omega) | refine bstep (by assumption) (by first | (simp; done) | (simp; omega) | omega) ?_)
      have hB2 := hB.below bel2
      have d0 : w2.cell? ⟨wr.heap.size, 0, none⟩ = some (.string x.s) := cell_later hb2 (by go_simp)
      have d1 : w2.cell? ⟨wr.heap.size, 1, none⟩ = some (.int .i64 x.W) := cell_later hb2 (by go_simp)
      have d2 : w2.cell? ⟨wr.heap.size, 2, none⟩ = some (.slice au lu cu) := cell_later hb2 (by go_simp)
      try go_wp2_with fail
      refine hK.out _ _ ?_ (fun hHeld5 => ?_)
      · intro _
        (try dsimp only)
        exact ⟨d0, d1, d2⟩
      clear hK
      replace hHeld5 := hHeld5 (by decide)
      try simp only [List.setIfInBounds_toArray, List.set_cons_zero, List.set_cons_succ]
      refine takeE (i := 6) (d := 19) (v := ?_) rfl rfl (by kernel_rfl) (by kernel_rfl) (by kernel_rfl) (by kernel_rfl) (fun _ _ _ h => h) (by rfl) (by assumption) ?_ ?_
      rotate_left
      · intro w' hSw; (try dsimp only at hSw); go_simp; try exact rfl
      try simp only [List.setIfInBounds_toArray, List.set_cons_zero, List.set_cons_succ]
      refine oneE (i := 7) (by kernel_rfl) rfl (fun K hK => ?_)
      go_simp
      refine hK.out _ _ ?_ (fun hHeld7 => ?_)
      · intro _
        (try dsimp only)
        exact ⟨(cell_blk (Below.heap_alloc w2 _ _ (by omega))).trans d0, (cell_blk (Below.heap_alloc w2 _ _ (by omega))).trans d1, (cell_blk (Below.heap_alloc w2 _ _ (by omega))).trans d2⟩
      clear hK
      replace hHeld7 := hHeld7 (by decide)
      try simp only [List.setIfInBounds_toArray, List.set_cons_zero, List.set_cons_succ]
      refine oneE (i := 8) (by kernel_rfl) rfl (fun K hK => ?_)
      refine step_append_lies _ (by rfl) _ _ _ (by rfl) w.heap.size 148 i0 _ 3 48 Try.underlying87 hi hz0 hz1 hz2 rfl (by omega) u3 ct.length (rcs us ct) (by rfl) (hB2.own.alloc _) ⟨w2.heap.size, 0, none⟩ 1 1 [.string x.s, .int .i64 x.W, .slice a2 l2 n2] (by rfl) (by rfl) (World.news_of_block (cs := #[.string x.s, .int .i64 x.W, .slice a2 l2 n2]) (t := 148) (fr := (0, 0)) (heap_alloc_new w2 _)) (by simp [Value.oneCell']) (by omega) hml hby (by simp; omega) (w2.heap.size + 1) (by simp) ?_
      intro gg cap w3 hown3 hgrow hat hlt3
      have hz3 := hgrow.size
      simp at hz3
      have far : ∀ b q, b < w2.heap.size → u3.ownBlock ≠ some b → w3.cell? ⟨b, q, none⟩ = w2.cell? ⟨b, q, none⟩ := fun b q hb hne => (hgrow.cell_far _ (by simp; omega) (Ne.symm hne)).trans (cell_blk (Below.heap_alloc _ _ _ hb))
      have f0 := (far wr.heap.size 0 (by omega) hvT).trans d0
      have f1 := (far wr.heap.size 1 (by omega) hvT).trans d1
      have f2 := (far wr.heap.size 2 (by omega) hvT).trans d2
      have hBp := RelOwn.push (x := negR x) (hB2.below ((Below.refl _ _).alloc (Nat.le_refl _) (.cells #[.string x.s, .int .i64 x.W, .slice a2 l2 n2] 148))) (hR2.below ((Below.refl _ _).alloc (Nat.le_refl _) _)) ⟨hO2.1, fun b hb => by have := hO2.2.1 b hb; omega, fun b hb q => (frozen_blk (Below.heap_alloc _ _ _ (hR2.lt b hb))).trans (hO2.2.2 b hb q)⟩ (fun b hb hb' => by have := hO2.2.1 b hb'; have := hGl b hb; omega) (fun b hb hb' => by have := hO2.2.1 b hb'; have := (ownsRow_lt hB.own b hb).2; omega) hown3 hgrow (fun b hb => by simp [Value.ownBlock] at hb; subst hb; rcases hat with h | h; exact .inl h; exact .inr (by simp; omega))
      have bel3 : Below w.heap.size w w3 := Below.grown (by repeat (first | (with_reducible exact Below.refl _ _) | (with_reducible refine Below.drew ?_) | (with_reducible refine Below.alloc ?_ ?hh _; case hh => first | (simp; done) | (simp; omega) | omega) | (with_reducible refine Below.setCell ?_ ?hh _; case hh => first | (simp; done) | (simp; omega) | omega) | refine bstep (by assumption) (by first | (simp; done) | (simp; omega) | omega) ?_)) hgrow (by simp; omega) (fun b hb => by have := (ownsRow_lt hB.own b hb).1; omega)
      refine hK.out _ _ ?_ (fun hHeld8 => ?_)
      · intro _
        (try dsimp only)
        exact ⟨f0, f1, f2⟩
      clear hK
      replace hHeld8 := hHeld8 (by decide)
      try simp only [List.setIfInBounds_toArray, List.set_cons_zero, List.set_cons_succ]
      refine oneE (i := 9) (by kernel_rfl) rfl (fun K hK => ?_)
      go_simp
      refine hK.out _ _ ?_ (fun hHeld9 => ?_)
      · exact fun h => absurd rfl h
      clear hK hHeld9
      try simp only [List.setIfInBounds_toArray, List.set_cons_zero, List.set_cons_succ]
      refine doneE (by kernel_rfl) ?_ _
      rw [← HT.out] at hBp
      clear hown3 hgrow hat far hB2 hR2 hO2 hb2 hB hHeld hHeld5 hHeld7 hHeld8 f0 f1 f2 d0 d1 d2
      go_wp2
      exact ⟨⟨k + 1, _, _, hlt, by simp, hBp, bel3⟩, by simp [intOf]; omega⟩
    · obtain rfl : k = rs.length := by omega
      rw [List.take_length] at hB
      obtain ⟨F', h1, h2⟩ := hB.relsF
      go_wp2
      go_returns
      exact ⟨⟨_, F', rfl, h1, h2⟩, hb⟩
end Go.Proofs.Ytnbcmkbkiebbdaa
