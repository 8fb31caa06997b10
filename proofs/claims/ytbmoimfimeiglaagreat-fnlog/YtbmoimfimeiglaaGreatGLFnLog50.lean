/- Own texts, joined: contracts that the law's proof goes by. -/
import Derived.Test.YtbmoimfimeiglaaGreatGLFnLog32
import Derived.Test.YtbmoimfimeiglaaGreatGLFnLog7
import Derived.Test.YtbmoimfimeiglaaGreatGLFnLog40
import Derived.Handy
import Derived.Deep.RegionHeld3
import Derived.Test.YtbmoimfimeiglaaGreatGLFnLog51
namespace Go.Proofs.YtbmoimfimeiglaaGreat
open Go.RowKit Go.Deep
set_option linter.unusedVariables false
def GsOut (s : ByteArray) (w : World) (r : Ending) (w' : World) : Prop := (∃ uc ur g F, r = .returned (.tuple #[.agg #[.int .i64 (gT s).k, .string (gT s).s, uc, .string (gT s).q, ur], .bool (gO s)]) ∧ StpOwn w' w.heap.size uc ur (gT s) g F) ∧ Below w.heap.size w w'
theorem alloc2_new (w : World) (A B : Obj) : ((w.alloc A).alloc B).heap[w.heap.size + 1]? = some B := by
  have h := heap_alloc_new (w.alloc A) B
  rwa [World.size_alloc] at h
theorem results_ct {fn : Func} {a u : Tmp} {t : TypeId} (h : fn.results = #[.cell a t, .tmp u]) (tmps : Array Value) (P : Program) (w : World) (v : Value) (p : Addr) (hp : tmps.getD a undef = .pointer (some p)) (hl : (loadVar t p).run P w = .ok v w) : (results fn tmps).run P w = .ok (.tuple #[v, tmps.getD u undef]) w := by
  have hp2 : tmps[a]?.getD undef = .pointer (some p) := by rw [← hp]; simp
  simp [results, h, hp2, hl, asAddr]
theorem load5 {w : World} {R : Nat} {a0 a1 a2 a3 a4 : Value} (c0 : w.cell? ⟨R, 0, none⟩ = some a0) (c1 : w.cell? ⟨R, 1, none⟩ = some a1) (c2 : w.cell? ⟨R, 2, none⟩ = some a2) (c3 : w.cell? ⟨R, 3, none⟩ = some a3) (c4 : w.cell? ⟨R, 4, none⟩ = some a4) : (loadVar 27 ⟨R, 0, none⟩).run Tryz.prog w = .ok (.agg #[a0, a1, a2, a3, a4]) w := by
  simp [go_sem, c0, c1, c2, c3, c4]
def five (w : World) (R : Nat) (b0 b1 b2 b3 b4 : Value) : World := ((((w.setCell ⟨R, 0, none⟩ b0).setCell ⟨R, 1, none⟩ b1).setCell ⟨R, 2, none⟩ b2).setCell ⟨R, 3, none⟩ b3).setCell ⟨R, 4, none⟩ b4
theorem five_read {w : World} {R : Nat} {a0 a1 a2 a3 a4 : Value} {t : TypeId} (h : w.heap[R]? = some (.cells #[a0, a1, a2, a3, a4] t (0, 0))) (b0 b1 b2 b3 b4 : Value) : (five w R b0 b1 b2 b3 b4).heap[R]? = some (.cells #[b0, b1, b2, b3, b4] t (0, 0)) :=
  set_blk (i := 4) (v := b4) (set_blk (i := 3) (v := b3) (set_blk (i := 2) (v := b2) (set_blk (i := 1) (v := b1) (set_blk (i := 0) (v := b0) h))))
theorem five_out {w wb : World} {R : Nat} {a0 a1 a2 a3 a4 : Value} {t : TypeId} (hb : Below w.heap.size w wb) (hR : w.heap.size ≤ R) (h : wb.heap[R]? = some (.cells #[a0, a1, a2, a3, a4] t (0, 0))) (b0 b1 b2 b3 b4 : Value) :
    (five wb R b0 b1 b2 b3 b4).cell? ⟨R, 0, none⟩ = some b0 ∧ (five wb R b0 b1 b2 b3 b4).cell? ⟨R, 1, none⟩ = some b1 ∧ (five wb R b0 b1 b2 b3 b4).cell? ⟨R, 2, none⟩ = some b2 ∧ (five wb R b0 b1 b2 b3 b4).cell? ⟨R, 3, none⟩ = some b3 ∧ (five wb R b0 b1 b2 b3 b4).cell? ⟨R, 4, none⟩ = some b4 ∧ Below w.heap.size w (five wb R b0 b1 b2 b3 b4) ∧ (∀ b, b ≠ R → (five wb R b0 b1 b2 b3 b4).heap[b]? = wb.heap[b]?) ∧ (five wb R b0 b1 b2 b3 b4).heap.size = wb.heap.size := by
  have h5 := five_read h b0 b1 b2 b3 b4
  refine ⟨by rw [Lib.cell_of_heap h5]; rfl, by rw [Lib.cell_of_heap h5]; rfl, by rw [Lib.cell_of_heap h5]; rfl, by rw [Lib.cell_of_heap h5]; rfl, by rw [Lib.cell_of_heap h5]; rfl, ?_, ?_, by simp [five]⟩
  · exact ((((hb.setCell (p := ⟨R, 0, none⟩) hR _).setCell (p := ⟨R, 1, none⟩) hR _).setCell (p := ⟨R, 2, none⟩) hR _).setCell (p := ⟨R, 3, none⟩) hR _).setCell (p := ⟨R, 4, none⟩) hR _
  · intro b hne
    unfold five
    iterate 5 rw [Below.heap_setCell _ _ _ _ (by simpa using hne)]
theorem alloc2_old (w : World) (A B : Obj) : ((w.alloc A).alloc B).heap[w.heap.size]? = some A := (heap_alloc_old _ _ (by simp)).trans (heap_alloc_new w A)
set_option maxHeartbeats 40000000 in
set_option maxRecDepth 100000 in
theorem specGetStep_any (s : ByteArray) (w : World) (hs : s.size ≤ 1048576) :
    Calls Tryz.prog 11 #[.string s] w fun r w' => GsOut s w r w' := by
  obtain ⟨i0, hi, hz0, hz1, hz2⟩ := info_parts infoS5
  obtain ⟨j0, hj0, hy0, hy1, hy2⟩ := info_parts infoR5
  have q1 : (sA s s.size (0, false)).2.1 ≤ s.size := nm_at (by simp)
  have q2 : (sB s s.size (0, false)).2.1 ≤ s.size := tx_at q1
  have q3 : (sN s s.size (0, false)).2.1 ≤ s.size := nm_at q2
  have q4 : (sC' s s.size (0, false)).2.1 ≤ s.size := csn_at q3 _
  have q5 : (sD s s.size (0, false)).2.1 ≤ s.size := tx_at q4
  have q6 : (sM s s.size (0, false)).2.1 ≤ s.size := nm_at q5
  have bn := gnV_bd s (sB s s.size (0, false)).2 1 q2 (by omega)
  have bm := gnV_bd s (sD s s.size (0, false)).2 1 q5 (by omega)
  have en : gnV s 1 (sB s s.size (0, false)).2 = ((gnV s 1 (sB s s.size (0, false)).2).toNat : Int) := by omega
  have em : gnV s 1 (sD s s.size (0, false)).2 = ((gnV s 1 (sD s s.size (0, false)).2).toNat : Int) := by omega
  have P1 : ∀ wz : World, Calls Tryz.prog 29 #[.string s, .int .i64 0, .int .i64 1] wz fun r w' => r = .returned (.tuple #[.int .i64 (gnV s 1 (0, false)), .int .i64 (ps (sA s s.size (0, false)).2)]) ∧ w' = wz := fun wz => l10Num_any s (0, false) 1 wz (Nat.zero_le _) hs (by omega)
  have P2 : ∀ wz : World, Calls Tryz.prog 36 #[.string s, .int .i64 (ps (sA s s.size (0, false)).2), .int .i64 2] wz fun r w' => r = .returned (.tuple #[.string (gtV s 2 (sA s s.size (0, false)).2), .int .i64 (ps (sB s s.size (0, false)).2)]) ∧ w' = wz := fun wz => l10Get_any s (sA s s.size (0, false)).2 2 wz q1 hs (by omega)
  have P3 : ∀ wz : World, Calls Tryz.prog 29 #[.string s, .int .i64 (ps (sB s s.size (0, false)).2), .int .i64 1] wz fun r w' => r = .returned (.tuple #[.int .i64 ((gnV s 1 (sB s s.size (0, false)).2).toNat : Int), .int .i64 (ps (sN s s.size (0, false)).2)]) ∧ w' = wz := fun wz => by rw [← en]; exact l10Num_any s (sB s s.size (0, false)).2 1 wz q2 hs (by omega)
  have P4 : ∀ (k : Nat) (wz : World), Calls Tryz.prog 36 #[.string s, .int .i64 (ps (csn s s.size (sN s s.size (0, false)).2 k).2), .int .i64 2] wz fun r w' => r = .returned (.tuple #[.string (gtV s 2 (csn s s.size (sN s s.size (0, false)).2 k).2), .int .i64 (ps (csn s s.size (sN s s.size (0, false)).2 (k + 1)).2)]) ∧ w' = wz := fun k wz => l10Get_any s (csn s s.size (sN s s.size (0, false)).2 k).2 2 wz (csn_at q3 k) hs (by omega)
  have P5 : ∀ wz : World, Calls Tryz.prog 36 #[.string s, .int .i64 (ps (sC' s s.size (0, false)).2), .int .i64 2] wz fun r w' => r = .returned (.tuple #[.string (gtV s 2 (sC' s s.size (0, false)).2), .int .i64 (ps (sD s s.size (0, false)).2)]) ∧ w' = wz := fun wz => l10Get_any s (sC' s s.size (0, false)).2 2 wz q4 hs (by omega)
  have P6 : ∀ wz : World, Calls Tryz.prog 29 #[.string s, .int .i64 (ps (sD s s.size (0, false)).2), .int .i64 1] wz fun r w' => r = .returned (.tuple #[.int .i64 ((gnV s 1 (sD s s.size (0, false)).2).toNat : Int), .int .i64 (ps (sM s s.size (0, false)).2)]) ∧ w' = wz := fun wz => by rw [← em]; exact l10Num_any s (sD s s.size (0, false)).2 1 wz q5 hs (by omega)
  have HnT : Hid ((sN s s.size (0, false)).2.2 = false → (gnV s 1 (sB s s.size (0, false)).2).toNat = (sN s s.size (0, false)).1.toNat) := by
    intro h
    have : gnV s 1 (sB s s.size (0, false)).2 = (sN s s.size (0, false)).1 := by unfold gnV; rw [if_neg]; rfl; intro h2; rw [show (nm s s.size 1 (sB s s.size (0, false)).2).2.2 = (sN s s.size (0, false)).2.2 from rfl, h] at h2; cases h2
    rw [this]
  have HmT : Hid ((sM s s.size (0, false)).2.2 = false → (gnV s 1 (sD s s.size (0, false)).2).toNat = (sM s s.size (0, false)).1.toNat) := by
    intro h
    have : gnV s 1 (sD s s.size (0, false)).2 = (sM s s.size (0, false)).1 := by unfold gnV; rw [if_neg]; rfl; intro h2; rw [show (nm s s.size 1 (sD s s.size (0, false)).2).2.2 = (sM s s.size (0, false)).2.2 from rfl, h] at h2; cases h2
    rw [this]
  have hn255 : (gnV s 1 (sB s s.size (0, false)).2).toNat ≤ 255 := by
    unfold gnV; split
    · simp
    · have := nm_bd1 (s := s) (e := s.size) (q := (sB s s.size (0, false)).2) (Nat.le_refl _) q2; omega
  have hm255 : (gnV s 1 (sD s s.size (0, false)).2).toNat ≤ 255 := by
    unfold gnV; split
    · simp
    · have := nm_bd1 (s := s) (e := s.size) (q := (sD s s.size (0, false)).2) (Nat.le_refl _) q5; omega
  clear bn bm en em
  generalize hN : (gnV s 1 (sB s s.size (0, false)).2).toNat = n at *
  generalize hM : (gnV s 1 (sD s s.size (0, false)).2).toNat = m at *
  go_enter Tryz.func11, Tryz.ntmps11
  go_wp2_with (first | (go_at_call 29; with_reducible refine Calls.mono (P1 _) ?_) | fail)
  rintro r w1 ⟨rfl, hw1⟩
  obtain rfl := hw1
  go_wp2_with (first | (go_at_call 36; with_reducible refine Calls.mono (P2 _) ?_) | fail)
  rintro r w1 ⟨rfl, hw1⟩
  obtain rfl := hw1
  go_wp2_with (first | (go_at_call 29; with_reducible refine Calls.mono (P3 _) ?_) | fail)
  rintro r w1 ⟨rfl, hw1⟩
  obtain rfl := hw1
  go_wp2_with fail
  go_loopw [10, 11] (fun nx i wr => ∃ (k : Nat) (cs : List ByteArray) (u : Value), k ≤ n ∧ i = .int .i64 k ∧ nx = .int .i64 (ps (csn s s.size (sN s s.size (0, false)).2 k).2) ∧ Hid (cs.length = k) ∧ Hid ((csn s s.size (sN s s.size (0, false)).2 k).2.2 = false → cs = (csn s s.size (sN s s.size (0, false)).2 k).1) ∧ wr.heap[w.heap.size + 1]? = some (.cells #[.int .i64 (gnV s 1 (0, false)), .string (gtV s 2 (sA s s.size (0, false)).2), u, .string ⟨#[]⟩, .slice none 0 0] 27 (0, 0)) ∧ wr.heap[w.heap.size]? = some (.cells #[.int .i64 0, .string ⟨#[]⟩, .slice none 0 0, .string ⟨#[]⟩, .slice none 0 0] 27 (0, 0)) ∧ wr.ownsRow (w.heap.size + 2) 9 1 u k (cs.map Value.string) ∧ Below w.heap.size w wr) (fun _ i _ => n - (intOf i).toNat)
  case atStart => exact ⟨0, [], .slice none 0 0, Nat.zero_le _, rfl, rfl, rfl, fun _ => rfl, alloc2_new _ _ _, alloc2_old _ _ _, World.ownsRow_nil _ _ _ _, bex⟩
  case round =>
    obtain ⟨k, cs, u, hk, rfl, rfl, HL, HC, hS, hR, hO, hb⟩ := hrel
    have hSl := heap_lt hS
    by_cases hgo : k < n ∧ (csn s s.size (sN s s.size (0, false)).2 k).2.2 = false
    · obtain ⟨hlt, ht⟩ := hgo
      have hp0 : 0 ≤ ps (csn s s.size (sN s s.size (0, false)).2 k).2 := by rw [ps_ge ht]; omega
      have hp1 : ¬ (ps (csn s s.size (sN s s.size (0, false)).2 k).2 < 0) := by omega
      have HX : Hid ((csn s s.size (sN s s.size (0, false)).2 (k + 1)).2.2 = false → cs ++ [gtV s 2 (csn s s.size (sN s s.size (0, false)).2 k).2] = (csn s s.size (sN s s.size (0, false)).2 (k + 1)).1) := by
        intro h
        have e1 : gtV s 2 (csn s s.size (sN s s.size (0, false)).2 k).2 = (tx s s.size 2 (csn s s.size (sN s s.size (0, false)).2 k).2).1 := by unfold gtV; rw [if_neg]; intro h2; rw [show (tx s s.size 2 (csn s s.size (sN s s.size (0, false)).2 k).2).2.2 = (csn s s.size (sN s s.size (0, false)).2 (k + 1)).2.2 from rfl, h] at h2; cases h2
        rw [e1, HC.out ht]; rfl
      have hne := own_typ hO hS (by decide)
      have t2 : wr.cell? ⟨w.heap.size + 1, 2, none⟩ = some u := by rw [Lib.cell_of_heap hS]; rfl
      have hkI : (k : Int) < (n : Int) := by omega
      have hP4 := P4 k wr
      generalize gtV s 2 (csn s s.size (sN s s.size (0, false)).2 k).2 = T at *
      generalize hnp : ps (csn s s.size (sN s s.size (0, false)).2 (k + 1)).2 = np at *
      go_wp2_with (first | (go_at_call 36; with_reducible refine Calls.mono hP4 ?_; rintro r w1 ⟨rfl, hw1⟩; obtain rfl : wr = w1 := hw1.symm) | (at_builtin; refine wpList_append_own _ rfl _ _ 24 rfl (w.heap.size + 2) 9 i0 (.string ⟨#[]⟩) 1 16 Tryz.underlying24 hi hz0 hz1 hz2 rfl (by decide) u k (cs.map Value.string) rfl ?hown ⟨wr.heap.size, 0, none⟩ 1 1 [.string T] rfl rfl ?c1 ?c2 ?c3 ?c4 ?c5 ?_))
      case hown => exact hO.alloc _
      case c1 => exact cell_one_new _ _ _
      case c2 => intro y hy; rcases List.mem_singleton.1 hy with rfl; rfl
      case c3 => unfold maxLen; omega
      case c4 => omega
      case c5 => simp; omega
      intro v' w2 hO2 hgrow _
      have hS2 : w2.heap[w.heap.size + 1]? = some (.cells #[.int .i64 (gnV s 1 (0, false)), .string (gtV s 2 (sA s s.size (0, false)).2), u, .string ⟨#[]⟩, .slice none 0 0] 27 (0, 0)) := (hgrow.block _ (by simp; omega) (fun e => hne e.symm)).trans ((heap_alloc_old wr _ hSl).trans hS)
      have hneR := own_typ hO hR (by decide)
      have hR2 : w2.heap[w.heap.size]? = some (.cells #[.int .i64 0, .string ⟨#[]⟩, .slice none 0 0, .string ⟨#[]⟩, .slice none 0 0] 27 (0, 0)) := (hgrow.block _ (by simp; omega) (fun e => hneR e.symm)).trans ((heap_alloc_old wr _ (by omega)).trans hR)
      have hne2 := own_typ hO2 hS2 (by decide)
      have t3 : w2.cell? ⟨w.heap.size + 1, 2, none⟩ = some u := by rw [Lib.cell_of_heap hS2]; rfl
      have t4 : w2.frozen? ⟨w.heap.size + 1, 2, none⟩ = false := Lib.frozen_of_heap hS2 2
      have hsh2 : ∃ ac nc cc, v' = .slice ac nc cc := by
        rcases hO2.2 with ⟨hv, _⟩ | ⟨g, cap, cur, hv, _⟩ <;> exact ⟨_, _, _, hv⟩
      obtain ⟨ac, nc, cc, rfl⟩ := hsh2
      have hb2 : Below w.heap.size w w2 := Below.grown (bex) hgrow (by simp; omega) (fun b hb => by have := (ownsRow_lt hO b hb).1; omega)
      have hS3 : (w2.setCell ⟨w.heap.size + 1, 2, none⟩ (.slice ac nc cc)).heap[w.heap.size + 1]? = some (.cells #[.int .i64 (gnV s 1 (0, false)), .string (gtV s 2 (sA s s.size (0, false)).2), .slice ac nc cc, .string ⟨#[]⟩, .slice none 0 0] 27 (0, 0)) := by rw [set_blk hS2]; rfl
      have hR3 : (w2.setCell ⟨w.heap.size + 1, 2, none⟩ (.slice ac nc cc)).heap[w.heap.size]? = some (.cells #[.int .i64 0, .string ⟨#[]⟩, .slice none 0 0, .string ⟨#[]⟩, .slice none 0 0] 27 (0, 0)) := (Below.heap_setCell _ _ _ _ (by intro e; dsimp only at e; omega)).trans hR2
      have hO3 : (w2.setCell ⟨w.heap.size + 1, 2, none⟩ (.slice ac nc cc)).ownsRow (w.heap.size + 2) 9 1 (.slice ac nc cc) (k + 1) ((cs ++ [T]).map Value.string) := by
        rw [List.map_append]
        exact ownsRow_keep hO2 fun b hv => Below.heap_setCell _ _ _ _ (by rintro rfl; exact hne2 hv)
      have hb3 : Below w.heap.size w (w2.setCell ⟨w.heap.size + 1, 2, none⟩ (.slice ac nc cc)) := hb2.setCell (p := ⟨w.heap.size + 1, 2, none⟩) (by simp) _
      have HL2 : Hid ((cs ++ [T]).length = k + 1) := by simp [Hid, HL.out]
      clear hO hO2 hgrow hS hR hS2 hR2 hb hb2 HC HL t2 hne hneR hne2 hP4 hp0 hp1 P1 P2 P3 P4 P5 P6
      go_wp2
      exact ⟨⟨k + 1, cs ++ [T], _, hlt, by simp, by rw [hnp], HL2, HX, hS3, hR3, hO3, hb3⟩, by simp [intOf]; omega⟩
    · have hexit : (k : Int) < (n : Int) → ps (csn s s.size (sN s s.size (0, false)).2 k).2 < 0 := by
        intro h1
        cases ht : (csn s s.size (sN s s.size (0, false)).2 k).2.2
        · exact absurd ⟨by omega, ht⟩ hgo
        · rw [ps_lt ht]; decide
      have hstop : (decide ((k : Int) < (n : Int)) && decide (0 ≤ ps (csn s s.size (sN s s.size (0, false)).2 k).2)) = false := by
        by_cases h1 : (k : Int) < (n : Int)
        · have := hexit h1; simp; omega
        · simp [h1]
      have HP : Hid (ps (csn s s.size (sN s s.size (0, false)).2 k).2 = ps (sC' s s.size (0, false)).2) := by
        show _ = _
        cases ht : (sN s s.size (0, false)).2.2 with
        | true =>
          have h1 : (csn s s.size (sN s s.size (0, false)).2 k).2.2 = true := by have := csn_late (s := s) (e := s.size) (q := (sN s s.size (0, false)).2) (k := 0) (d := k) ht; rwa [Nat.zero_add] at this
          have h2 : (sC' s s.size (0, false)).2.2 = true := by have := csn_late (s := s) (e := s.size) (q := (sN s s.size (0, false)).2) (k := 0) (d := (sN s s.size (0, false)).1.toNat) ht; rwa [Nat.zero_add] at this
          rw [ps_lt h1, ps_lt h2]
        | false =>
          have hnn := HnT.out ht
          by_cases h1 : k < n
          · have h2 := hexit (by omega)
            have h3 : (csn s s.size (sN s s.size (0, false)).2 k).2.2 = true := by
              cases h4 : (csn s s.size (sN s s.size (0, false)).2 k).2.2 with
              | true => rfl
              | false => rw [ps_ge h4] at h2; omega
            have h5 : (sC' s s.size (0, false)).2.2 = true := by
              have := csn_late (s := s) (e := s.size) (q := (sN s s.size (0, false)).2) (k := k) (d := n - k) h3
              rw [show k + (n - k) = (sN s s.size (0, false)).1.toNat by omega] at this
              exact this
            rw [ps_lt h3, ps_lt h5]
          · have : k = (sN s s.size (0, false)).1.toNat := by omega
            rw [this]; rfl
      have HC2 : Hid ((sC' s s.size (0, false)).2.2 = false → cs = (sC' s s.size (0, false)).1) := by
        intro h
        have h0 := csn_torn (q := (sN s s.size (0, false)).2) _ h
        have hnn := HnT.out h0
        have h1 : ¬ k < n := by
          intro h1
          have h2 := hexit (by omega)
          have h3 := HP.out
          rw [ps_ge h] at h3
          omega
        have : k = (sN s s.size (0, false)).1.toNat := by omega
        have h4 := HC.out (by rw [this]; exact h)
        rw [h4, this]; rfl
      have hsh : ∃ ac nc cc, u = .slice ac nc cc := by
        rcases hO.2 with ⟨hv, _⟩ | ⟨g, cap, cur, hv, _⟩ <;> exact ⟨_, _, _, hv⟩
      obtain ⟨ac, nc, cc, rfl⟩ := hsh
      have t2 : wr.cell? ⟨w.heap.size + 1, 3, none⟩ = some (.string ⟨#[]⟩) := by rw [Lib.cell_of_heap hS]; rfl
      have t3 : wr.frozen? ⟨w.heap.size + 1, 3, none⟩ = false := Lib.frozen_of_heap hS 3
      have hP5 := P5 wr
      have HPe := HP.out
      rw [← HPe] at hP5
      have hexit0 : Hid ((k : Int) < (n : Int) → ps (csn s s.size (sN s s.size (0, false)).2 k).2 < 0) := hexit
      clear hexit hgo P1 P2 P3 P4 P5 HC HPe
      have hcase : (¬ ((k : Int) < (n : Int))) ∨ ((k : Int) < (n : Int) ∧ ps (csn s s.size (sN s s.size (0, false)).2 k).2 < 0) := by
        by_cases h1 : (k : Int) < (n : Int)
        · exact .inr ⟨h1, hexit0.out h1⟩
        · exact .inl h1
      generalize hpv : ps (csn s s.size (sN s s.size (0, false)).2 k).2 = pv at *
      have hcase2 : (decide ((k : Int) < (n : Int)) = false) ∨ (decide ((k : Int) < (n : Int)) = true ∧ decide (0 ≤ pv) = false) := by
        rcases hcase with h | ⟨h1, h2⟩
        · exact .inl (decide_eq_false h)
        · exact .inr ⟨decide_eq_true h1, decide_eq_false (by omega)⟩
      clear hstop
      rcases hcase with hA | ⟨hA, hB⟩
      · go_wp2_with (first | (go_at_call 36; with_reducible refine Calls.mono hP5 ?_; rintro r w1 ⟨rfl, hw1⟩; obtain rfl : wr = w1 := hw1.symm) | (go_at_call 29; with_reducible refine Calls.mono (P6 _) ?_; rintro r w1 ⟨rfl, hw1⟩; obtain rfl := hw1) | fail)
        have hS2 : (wr.setCell ⟨w.heap.size + 1, 3, none⟩ (.string (gtV s 2 (sC' s s.size (0, false)).2))).heap[w.heap.size + 1]? = some (.cells #[.int .i64 (gnV s 1 (0, false)), .string (gtV s 2 (sA s s.size (0, false)).2), .slice ac nc cc, .string (gtV s 2 (sC' s s.size (0, false)).2), .slice none 0 0] 27 (0, 0)) := by rw [set_blk hS]; rfl
        have hR2 : (wr.setCell ⟨w.heap.size + 1, 3, none⟩ (.string (gtV s 2 (sC' s s.size (0, false)).2))).heap[w.heap.size]? = some (.cells #[.int .i64 0, .string ⟨#[]⟩, .slice none 0 0, .string ⟨#[]⟩, .slice none 0 0] 27 (0, 0)) := (Below.heap_setCell _ _ _ _ (by intro e; dsimp only at e; omega)).trans hR
        have hneS := own_typ hO hS (by decide)
        have hO2 : (wr.setCell ⟨w.heap.size + 1, 3, none⟩ (.string (gtV s 2 (sC' s s.size (0, false)).2))).ownsRow (w.heap.size + 2) 9 1 (.slice ac nc cc) k (cs.map Value.string) := ownsRow_keep hO fun b hv => Below.heap_setCell _ _ _ _ (by rintro rfl; exact hneS hv)
        have hb2 : Below w.heap.size w (wr.setCell ⟨w.heap.size + 1, 3, none⟩ (.string (gtV s 2 (sC' s s.size (0, false)).2))) := hb.setCell (p := ⟨w.heap.size + 1, 3, none⟩) (by simp) _
        clear hS hR hO hb t2 t3 hneS hP5 P6
        generalize wr.setCell ⟨w.heap.size + 1, 3, none⟩ (.string (gtV s 2 (sC' s s.size (0, false)).2)) = wS at *
        have hSl2 := heap_lt hS2
        have hbO := fun b hb => (ownsRow_lt hO2 b hb).2
        have HE1 : Hid ((sA s s.size (0, false)).2.2 = false → gnV s 1 (0, false) = (sX s s.size (0, false)).k) := by
          intro h1; show _ = _; unfold gnV; rw [if_neg (by rw [show (nm s s.size 1 (0, false)).2.2 = (sA s s.size (0, false)).2.2 from rfl, h1]; decide)]; rfl
        have HE2 : Hid ((sB s s.size (0, false)).2.2 = false → gtV s 2 (sA s s.size (0, false)).2 = (sX s s.size (0, false)).s) := by
          intro h2; show _ = _; unfold gtV; rw [if_neg (by rw [show (tx s s.size 2 (sA s s.size (0, false)).2).2.2 = (sB s s.size (0, false)).2.2 from rfl, h2]; decide)]; rfl
        have HE4 : Hid ((sD s s.size (0, false)).2.2 = false → (gtV s 2 (sC' s s.size (0, false)).2) = (sX s s.size (0, false)).q) := by
          intro h5; show _ = _; unfold gtV; rw [if_neg (by rw [show (tx s s.size 2 (sC' s s.size (0, false)).2).2.2 = (sD s s.size (0, false)).2.2 from rfl, h5]; decide)]; rfl
        obtain ⟨fR, HfR⟩ : ∃ f : Nat → Int, Hid (∀ j, ps (rln s s.size (sM s s.size (0, false)).2 j).2 = f j) := ⟨fun j => ps (rln s s.size (sM s s.size (0, false)).2 j).2, fun _ => rfl⟩
        rw [show ps (sM s s.size (0, false)).2 = fR 0 from HfR.out 0]
        generalize gnV s 1 (0, false) = kA at *
        generalize gtV s 2 (sA s s.size (0, false)).2 = tA at *
        generalize (gtV s 2 (sC' s s.size (0, false)).2) = tD at *
        generalize ps (sA s s.size (0, false)).2 = pA
        generalize ps (sB s s.size (0, false)).2 = pB
        generalize ps (sN s s.size (0, false)).2 = pN
        generalize ps (sD s s.size (0, false)).2 = pD
        go_loopw [17, 18] (fun fr i wq => ∃ (j : Nat) (rs : List R3) (v : Value) (us : List Value) (G : List (List Nat)), j ≤ m ∧ i = .int .i64 j ∧ fr = .int .i64 (fR j) ∧ Hid (rs.length = j) ∧ Hid ((rln s s.size (sM s s.size (0, false)).2 j).2.2 = false → rs = (rln s s.size (sM s s.size (0, false)).2 j).1) ∧ wq.heap[w.heap.size + 1]? = some (.cells #[.int .i64 (kA), .string tA, .slice ac nc cc, .string tD, v] 27 (0, 0)) ∧ wq.heap[w.heap.size]? = some (.cells #[.int .i64 0, .string ⟨#[]⟩, .slice none 0 0, .string ⟨#[]⟩, .slice none 0 0] 27 (0, 0)) ∧ wq.ownsRow (w.heap.size + 2) 9 1 (.slice ac nc cc) k (cs.map Value.string) ∧ RelOwn wq wS.heap.size v rs us G ∧ Below w.heap.size w wq ∧ wS.heap.size ≤ wq.heap.size) (fun _ i _ => m - (intOf i).toNat)
        case atStart => exact ⟨0, [], .slice none 0 0, [], [], Nat.zero_le _, rfl, rfl, rfl, fun _ => rfl, hS2, hR2, hO2, ⟨⟨rfl, .inl ⟨rfl, rfl⟩⟩, rfl, rfl, fun i x u g hx => by simp at hx, by simp [Own, Free], fun b _ => by simp⟩, hb2, Nat.le_refl _⟩
        case round =>
          clear hS2 hR2 hO2 hb2
          obtain ⟨j, rs, v, us, G, hj, rfl, rfl, HLr, HCr, hS, hR, hO, hQ, hb, hzS⟩ := hrel
          by_cases hgo2 : j < m ∧ (rln s s.size (sM s s.size (0, false)).2 j).2.2 = false
          · obtain ⟨hlt, ht⟩ := hgo2
            have hp0 : 0 ≤ fR j := by rw [← HfR.out j, ps_ge ht]; omega
            have hjI : (j : Int) < (m : Int) := by omega
            have hqj : (rln s s.size (sM s s.size (0, false)).2 j).2.1 ≤ s.size := rln_at q6 j
            have hqt : (tx s s.size 2 (rln s s.size (sM s s.size (0, false)).2 j).2).2.1 ≤ s.size := tx_at hqj
            have hP7 := l10Get_any s (rln s s.size (sM s s.size (0, false)).2 j).2 2 wr hqj hs (by omega)
            rw [HfR.out j] at hP7
            have hP8 := l10Get_any s (tx s s.size 2 (rln s s.size (sM s s.size (0, false)).2 j).2).2 4 wr hqt hs (by omega)
            have hsz2 : (gtV s 4 (tx s s.size 2 (rln s s.size (sM s s.size (0, false)).2 j).2).2).size ≤ 1048576 := by
              unfold gtV
              split
              · exact Nat.zero_le _
              · exact Nat.le_trans (tk_size (Nat.le_refl _) (nm_at hqt)) hs
            have hGB := specGetBag_any (gtV s 4 (tx s s.size 2 (rln s s.size (sM s s.size (0, false)).2 j).2).2) wr hsz2
            have HBad : Hid (aB (gtV s 4 (tx s s.size 2 (rln s s.size (sM s s.size (0, false)).2 j).2).2) = false → gO s = false) := by
              intro hab
              have h1 : (rln s s.size (sM s s.size (0, false)).2 (j + 1)).2.2 = true := rl_bad hab
              have h2 := rln_torn (q := (sM s s.size (0, false)).2) _ ht
              have h3 := HmT.out h2
              have h4 : (sE s s.size (0, false)).2.2 = true := by
                have := rln_late (s := s) (e := s.size) (q := (sM s s.size (0, false)).2) (k := j + 1) (d := m - (j + 1)) h1
                rw [show j + 1 + (m - (j + 1)) = (sM s s.size (0, false)).1.toNat by omega] at this
                exact this
              unfold gO sO sT
              rw [h4]; rfl
            have HNx : Hid (aB (gtV s 4 (tx s s.size 2 (rln s s.size (sM s s.size (0, false)).2 j).2).2) = true → ps (tx s s.size 4 (tx s s.size 2 (rln s s.size (sM s s.size (0, false)).2 j).2).2).2 = fR (j + 1)) := fun hab => by show _ = _; rw [← HfR.out]; exact ps_rl hab
            have HEq : Hid ((rln s s.size (sM s s.size (0, false)).2 (j + 1)).2.2 = false → rs ++ [⟨gtV s 2 (rln s s.size (sM s s.size (0, false)).2 j).2, aW (gtV s 4 (tx s s.size 2 (rln s s.size (sM s s.size (0, false)).2 j).2).2), aC (gtV s 4 (tx s s.size 2 (rln s s.size (sM s s.size (0, false)).2 j).2).2)⟩] = (rln s s.size (sM s s.size (0, false)).2 (j + 1)).1) := by
              intro h
              rw [rl_eq (q := (rln s s.size (sM s s.size (0, false)).2 j).2) h, HCr.out ht]; rfl
            generalize gtV s 2 (rln s s.size (sM s s.size (0, false)).2 j).2 = T1 at *
            generalize gtV s 4 (tx s s.size 2 (rln s s.size (sM s s.size (0, false)).2 j).2).2 = T2 at *
            generalize ps (tx s s.size 4 (tx s s.size 2 (rln s s.size (sM s s.size (0, false)).2 j).2).2).2 = p3 at *
            generalize ps (tx s s.size 2 (rln s s.size (sM s s.size (0, false)).2 j).2).2 = p2 at *
            go_wp2_with (first | (go_at_call 36; with_reducible refine Calls.mono hP7 ?_; rintro r w1 ⟨rfl, hw1⟩; obtain rfl : wr = w1 := hw1.symm) | (go_at_call 36; with_reducible refine Calls.mono hP8 ?_; rintro r w1 ⟨rfl, hw1⟩; obtain rfl : wr = w1 := hw1.symm) | (go_at_call 37; with_reducible refine Calls.mono hGB ?_) | fail)
            rintro r w3 ⟨⟨u3, us3, G3, rfl, hBag⟩, hb3⟩
            obtain ⟨a3, c3, rfl⟩ := hBag.shape
            cases hab : aB T2
            · as_aux_lemma =>
                have hgo := HBad.out hab
                have HZ : Hid (gT s = zT) := by show _ = _; unfold gT; rw [if_neg (by rw [show sO s s.size (0, false) = gO s from rfl, hgo]; decide)]
                have hR3 : (w3.alloc (.cells #[.int .i64 (aW T2), .slice a3 (aC T2).length c3] 71)).heap[w.heap.size]? = some (.cells #[.int .i64 0, .string ⟨#[]⟩, .slice none 0 0, .string ⟨#[]⟩, .slice none 0 0] 27 (0, 0)) := (heap_alloc_old w3 _ (Nat.lt_of_lt_of_le (heap_lt hR) hb3.size)).trans ((hb3.block _ (heap_lt hR)).trans hR)
                have hbE : Below w.heap.size w (w3.alloc (.cells #[.int .i64 (aW T2), .slice a3 (aC T2).length c3] 71)) := (hb.trans (hb3.mono hb.size)).alloc (Nat.le_trans hb.size hb3.size) _
                clear hR hS hO hQ hb hb3 hBag HBad HNx HEq HCr HLr hP7 hP8 hGB
                clear HE1 HE2 HE4 HfR q1 q2 q3 q4 q5 q6 HnT HmT hn255 hm255 hcase2 hexit0 HL HP HC2 hi hz0 hz1 hz2 hj0 hy0 hy1 hy2 hSl2 hbO
                go_upto_region 22 with fail
                generalize w3.alloc (.cells #[.int .i64 (aW T2), .slice a3 (aC T2).length c3] 71) = wb at *
                have r0 : wb.cell? ⟨w.heap.size, 0, none⟩ = some (.int .i64 0) := by rw [Lib.cell_of_heap hR3]; rfl
                have r1 : wb.cell? ⟨w.heap.size, 1, none⟩ = some (.string ⟨#[]⟩) := by rw [Lib.cell_of_heap hR3]; rfl
                have r2 : wb.cell? ⟨w.heap.size, 2, none⟩ = some (.slice none 0 0) := by rw [Lib.cell_of_heap hR3]; rfl
                have r3 : wb.cell? ⟨w.heap.size, 3, none⟩ = some (.string ⟨#[]⟩) := by rw [Lib.cell_of_heap hR3]; rfl
                have r4 : wb.cell? ⟨w.heap.size, 4, none⟩ = some (.slice none 0 0) := by rw [Lib.cell_of_heap hR3]; rfl
                have rf : ∀ i, wb.frozen? ⟨w.heap.size, i, none⟩ = false := fun i => Lib.frozen_of_heap hR3 i
                have hRl := heap_lt hR3
                have HR : Hid (wb.heap[w.heap.size]? = some (.cells #[.int .i64 0, .string ⟨#[]⟩, .slice none 0 0, .string ⟨#[]⟩, .slice none 0 0] 27 (0, 0))) := hR3
                clear hR3
                go_wp2
                obtain ⟨c0, c1, c2, c3, c4, c5, c6, c7⟩ := five_out hbE (Nat.le_refl _) HR.out (.int .i64 0) (.string ⟨#[]⟩) (.slice none 0 0) (.string ⟨#[]⟩) (.slice none 0 0)
                clear r0 r1 r2 r3 r4 rf HR
                unfold five at c0 c1 c2 c3 c4 c5 c6 c7
                generalize (World.setCell (World.setCell (World.setCell (World.setCell (World.setCell wb ⟨w.heap.size, 0, none⟩ (.int .i64 0)) ⟨w.heap.size, 1, none⟩ (.string ⟨#[]⟩)) ⟨w.heap.size, 2, none⟩ (.slice none 0 0)) ⟨w.heap.size, 3, none⟩ (.string ⟨#[]⟩)) ⟨w.heap.size, 4, none⟩ (.slice none 0 0)) = wF at c0 c1 c2 c3 c4 c5 c6 c7 ⊢
                refine bodyPost_ret (results_ct rfl _ _ _ _ ⟨w.heap.size, 0, none⟩ rfl (load5 c0 c1 c2 c3 c4)) rfl ⟨⟨.slice none 0 0, .slice none 0 0, [], [], (by rw [HZ.out]; (try rw [hgo]); rfl), (by rw [HZ.out]; exact StpOwn.nil _ _)⟩, c5⟩
            · as_aux_lemma =>
                have hnx := HNx.out hab
                obtain ⟨F2, hF2, hO2⟩ := hBag.rowsF
                have hGl := hQ.lt
                have hul := ownsRow_lt hQ.own
                have hSl3 := heap_lt hS
                have hRl3 := heap_lt hR
                have hzr := hb3.size
                have hbO3 := fun b hb => (ownsRow_lt hO b hb).2
                have bal : Below w3.heap.size w3 ((w3.alloc (.cells #[.int .i64 (aW T2), .slice a3 (aC T2).length c3] 71)).alloc (.cells #[.string T1, .int .i64 (aW T2), .slice a3 (aC T2).length c3] 73)) := ((Below.refl _ _).alloc (Nat.le_refl _) _).alloc (by simp) _
                have bA : Below wr.heap.size wr ((w3.alloc (.cells #[.int .i64 (aW T2), .slice a3 (aC T2).length c3] 71)).alloc (.cells #[.string T1, .int .i64 (aW T2), .slice a3 (aC T2).length c3] 73)) := hb3.trans (bal.mono hzr)
                have hS4 : ((w3.alloc (.cells #[.int .i64 (aW T2), .slice a3 (aC T2).length c3] 71)).alloc (.cells #[.string T1, .int .i64 (aW T2), .slice a3 (aC T2).length c3] 73)).heap[w.heap.size + 1]? = some (.cells #[.int .i64 kA, .string tA, .slice ac nc cc, .string tD, v] 27 (0, 0)) := (bA.block _ hSl3).trans hS
                have hR4 : ((w3.alloc (.cells #[.int .i64 (aW T2), .slice a3 (aC T2).length c3] 71)).alloc (.cells #[.string T1, .int .i64 (aW T2), .slice a3 (aC T2).length c3] 73)).heap[w.heap.size]? = some (.cells #[.int .i64 0, .string ⟨#[]⟩, .slice none 0 0, .string ⟨#[]⟩, .slice none 0 0] 27 (0, 0)) := (bA.block _ hRl3).trans hR
                have hO4 : ((w3.alloc (.cells #[.int .i64 (aW T2), .slice a3 (aC T2).length c3] 71)).alloc (.cells #[.string T1, .int .i64 (aW T2), .slice a3 (aC T2).length c3] 73)).ownsRow (w.heap.size + 2) 9 1 (.slice ac nc cc) k (cs.map Value.string) := ownsRow_keep hO fun b hv => bA.block b (hbO3 b hv)
                have hQ4 := hQ.below bA
                have hbE : Below w.heap.size w ((w3.alloc (.cells #[.int .i64 (aW T2), .slice a3 (aC T2).length c3] 71)).alloc (.cells #[.string T1, .int .i64 (aW T2), .slice a3 (aC T2).length c3] 73)) := hb.trans (bA.mono hb.size)
                have hF4 := hF2.below bal
                have hOw4 : Own ((w3.alloc (.cells #[.int .i64 (aW T2), .slice a3 (aC T2).length c3] 71)).alloc (.cells #[.string T1, .int .i64 (aW T2), .slice a3 (aC T2).length c3] 73)) wS.heap.size F2 := ⟨hO2.1, fun b hb => Nat.le_trans hzS (hO2.2.1 b hb), fun b hb i => (frozen_blk (bal.block _ (hF2.lt b hb))).trans (hO2.2.2 b hb i)⟩
                have hd1 : ∀ b ∈ G.flatten, b ∉ F2 := fun b hb hb2 => by have := hO2.2.1 b hb2; have := hGl b hb; omega
                have hd2 : ∀ b, v.ownBlock = some b → b ∉ F2 := fun b hb hb2 => by have := hO2.2.1 b hb2; have := (hul b hb).2; omega
                have hrl : ((w3.alloc (.cells #[.int .i64 (aW T2), .slice a3 (aC T2).length c3] 71)).alloc (.cells #[.string T1, .int .i64 (aW T2), .slice a3 (aC T2).length c3] 73)).heap[w3.heap.size + 1]? = some (.cells #[.string T1, .int .i64 (aW T2), .slice a3 (aC T2).length c3] 73 (0, 0)) := alloc2_new _ _ _
                obtain ⟨av, cv, rfl⟩ := hQ.shape
                have t0 : w3.cell? ⟨w.heap.size + 1, 4, none⟩ = some (.slice av rs.length cv) := by rw [Lib.cell_of_heap ((hb3.block _ hSl3).trans hS)]; rfl
                have hl3 : w.heap.size + 1 < w3.heap.size := by omega
                have hlenJ : rs.length = j := HLr.out
                have HLJ : Hid (rs.length = j) := hlenJ
                have hz4 : wS.heap.size ≤ w3.heap.size := by omega
                have hml : rs.length ≤ 255 := by omega
                clear hlenJ hb3 hBag hO hQ hb hS hR hO2 hF2 HBad HCr HLr hP7 hP8 hGB HNx bA bal
                have ho4 := hQ4.own
                go_wp2_with (at_builtin; (refine wpList_append_own_at _ rfl _ _ 25 rfl wS.heap.size 73 j0 _ 3 48 Tryz.underlying25 hj0 hy0 hy1 hy2 rfl (by decide) _ _ _ rfl ho4 ⟨w3.heap.size + 1, 0, none⟩ 1 1 [.string T1, .int .i64 (aW T2), .slice a3 (aC T2).length c3] rfl (by simp) ?c1 ?c2 ?c3 ?c4 ?c5 ?_))
                case c1 => exact World.news_of_block (cs := #[.string T1, .int .i64 (aW T2), .slice a3 (aC T2).length c3]) (t := 73) (fr := (0, 0)) hrl
                case c2 => simp [Value.oneCell']
                case c3 => unfold maxLen; omega
                case c4 => omega
                case c5 => simp; omega
                intro v' w5 hown' hgrow _ hat
                have hneS := own_typ ho4 hS4 (by decide)
                have hneR := own_typ ho4 hR4 (by decide)
                have hS5 : w5.heap[w.heap.size + 1]? = some (.cells #[.int .i64 kA, .string tA, .slice ac nc cc, .string tD, .slice av rs.length cv] 27 (0, 0)) := (hgrow.block _ (heap_lt hS4) (fun e => hneS e.symm)).trans hS4
                have hR5 : w5.heap[w.heap.size]? = some (.cells #[.int .i64 0, .string ⟨#[]⟩, .slice none 0 0, .string ⟨#[]⟩, .slice none 0 0] 27 (0, 0)) := (hgrow.block _ (heap_lt hR4) (fun e => hneR e.symm)).trans hR4
                have hO5 : w5.ownsRow (w.heap.size + 2) 9 1 (.slice ac nc cc) k (cs.map Value.string) := ownsRow_keep hO4 fun b hv => hgrow.block b (ownsRow_lt hO4 b hv).2 (fun e => by have h1 := (hul b e.symm).1; have h2 := hbO b hv; omega)
                have hQ5 := RelOwn.push (x := ⟨T1, aW T2, aC T2⟩) hQ4 hF4 hOw4 hd1 hd2 hown' hgrow (fun b hb => by
                  rcases hat with e | e
                  · left; rw [← e]; exact hb
                  · right; rw [e] at hb; cases hb; simp)
                have hb5 : Below w.heap.size w w5 := hbE.grown hgrow (by simp; omega) (fun b hb => by have := (hul b hb).1; omega)
                have hne5 := own_typ hown' hS5 (by decide)
                have hsz5 := hgrow.size
                simp only [World.size_alloc] at hsz5
                have hs5 : ∃ ao n' cap, v' = .slice ao n' cap := by
                  rcases hown'.2 with ⟨hv, _⟩ | ⟨g, cap, cur, hv, _⟩ <;> exact ⟨_, _, _, hv⟩
                obtain ⟨ao, n', cap, rfl⟩ := hs5
                have t3 : w5.cell? ⟨w.heap.size + 1, 4, none⟩ = some (.slice av rs.length cv) := by rw [Lib.cell_of_heap hS5]; rfl
                have t4 : w5.frozen? ⟨w.heap.size + 1, 4, none⟩ = false := Lib.frozen_of_heap hS5 4
                have hS6 : (w5.setCell ⟨w.heap.size + 1, 4, none⟩ (.slice ao n' cap)).heap[w.heap.size + 1]? = some (.cells #[.int .i64 kA, .string tA, .slice ac nc cc, .string tD, .slice ao n' cap] 27 (0, 0)) := by rw [set_blk hS5]; rfl
                have hR6 : (w5.setCell ⟨w.heap.size + 1, 4, none⟩ (.slice ao n' cap)).heap[w.heap.size]? = some (.cells #[.int .i64 0, .string ⟨#[]⟩, .slice none 0 0, .string ⟨#[]⟩, .slice none 0 0] 27 (0, 0)) := (Below.heap_setCell _ _ _ _ (by intro e; dsimp only at e; omega)).trans hR5
                have hneO := own_typ hO5 hS5 (by decide)
                have hO6 : (w5.setCell ⟨w.heap.size + 1, 4, none⟩ (.slice ao n' cap)).ownsRow (w.heap.size + 2) 9 1 (.slice ac nc cc) k (cs.map Value.string) := ownsRow_keep hO5 fun b hv => Below.heap_setCell _ _ _ _ (by rintro rfl; exact hneO hv)
                have hQ6 := hQ5.keepF (w' := w5.setCell ⟨w.heap.size + 1, 4, none⟩ (.slice ao n' cap)) (by simp) (fun b hv => Below.heap_setCell _ _ _ _ (by rintro rfl; exact hne5 hv)) (fun b hb => Below.heap_setCell _ _ _ _ (by intro e; have := hQ5.free.2.1 _ hb; dsimp only at e; omega))
                have hb6 : Below w.heap.size w (w5.setCell ⟨w.heap.size + 1, 4, none⟩ (.slice ao n' cap)) := hb5.setCell (p := ⟨w.heap.size + 1, 4, none⟩) (by simp) _
                have hz6 : wS.heap.size ≤ (w5.setCell ⟨w.heap.size + 1, 4, none⟩ (.slice ao n' cap)).heap.size := by simp; omega
                have HL6 : Hid ((rs ++ [(⟨T1, aW T2, aC T2⟩ : R3)]).length = j + 1) := by show _ = _; rw [List.length_append, HLJ.out]; rfl
                have HQ6 : Hid (RelOwn (w5.setCell ⟨w.heap.size + 1, 4, none⟩ (.slice ao n' cap)) wS.heap.size (.slice ao n' cap) (rs ++ [⟨T1, aW T2, aC T2⟩]) (us ++ [.slice a3 (aC T2).length c3]) (G ++ [F2])) := hQ6
                clear hQ4 hQ5 hQ6 hown' hgrow hat hF4 hOw4 hO4 hO5 hS4 hS5 hR4 hR5 ho4 hb5 hbE t0 hrl hne5 hneS hneR hneO
                go_wp2
                exact ⟨⟨j + 1, rs ++ [⟨T1, aW T2, aC T2⟩], _, _, _, hlt, by simp, (by first | rfl | rw [hnx]), HL6, HEq, hS6, hR6, hO6, HQ6.out, hb6, hz6⟩, by simp [intOf]; omega⟩
          · as_aux_lemma =>
              have hexit : (j : Int) < (m : Int) → fR j < 0 := by
                intro h1
                rw [← HfR.out j]
                cases ht : (rln s s.size (sM s s.size (0, false)).2 j).2.2
                · exact absurd ⟨by omega, ht⟩ hgo2
                · rw [ps_lt ht]; decide
              have HP : Hid (fR j = ps (sE s s.size (0, false)).2) := by
                show _ = _
                rw [← HfR.out j]
                cases ht : (sM s s.size (0, false)).2.2 with
                | true =>
                  have h1 : (rln s s.size (sM s s.size (0, false)).2 j).2.2 = true := by have := rln_late (s := s) (e := s.size) (q := (sM s s.size (0, false)).2) (k := 0) (d := j) ht; rwa [Nat.zero_add] at this
                  have h2 : (sE s s.size (0, false)).2.2 = true := by have := rln_late (s := s) (e := s.size) (q := (sM s s.size (0, false)).2) (k := 0) (d := (sM s s.size (0, false)).1.toNat) ht; rwa [Nat.zero_add] at this
                  rw [ps_lt h1, ps_lt h2]
                | false =>
                  have hnn := HmT.out ht
                  by_cases h1 : j < m
                  · have h2 := hexit (by omega)
                    rw [← HfR.out j] at h2
                    have h3 : (rln s s.size (sM s s.size (0, false)).2 j).2.2 = true := by
                      cases h4 : (rln s s.size (sM s s.size (0, false)).2 j).2.2 with
                      | true => rfl
                      | false => rw [ps_ge h4] at h2; omega
                    have h5 : (sE s s.size (0, false)).2.2 = true := by
                      have := rln_late (s := s) (e := s.size) (q := (sM s s.size (0, false)).2) (k := j) (d := m - j) h3
                      rw [show j + (m - j) = (sM s s.size (0, false)).1.toNat by omega] at this
                      exact this
                    rw [ps_lt h3, ps_lt h5]
                  · have : j = (sM s s.size (0, false)).1.toNat := by omega
                    rw [this]; rfl
              have HCE : Hid ((sE s s.size (0, false)).2.2 = false → rs = (sE s s.size (0, false)).1) := by
                intro h
                have h0 := rln_torn (q := (sM s s.size (0, false)).2) _ h
                have hnn := HmT.out h0
                have h1 : ¬ j < m := by
                  intro h1
                  have h2 := hexit (by omega)
                  have h3 := HP.out
                  rw [ps_ge h] at h3
                  omega
                have : j = (sM s s.size (0, false)).1.toNat := by omega
                have h4 := HCr.out (by rw [this]; exact h)
                rw [h4, this]; rfl
              have r0 : wr.cell? ⟨w.heap.size, 0, none⟩ = some (.int .i64 0) := by rw [Lib.cell_of_heap hR]; rfl
              have r1 : wr.cell? ⟨w.heap.size, 1, none⟩ = some (.string ⟨#[]⟩) := by rw [Lib.cell_of_heap hR]; rfl
              have r2 : wr.cell? ⟨w.heap.size, 2, none⟩ = some (.slice none 0 0) := by rw [Lib.cell_of_heap hR]; rfl
              have r3 : wr.cell? ⟨w.heap.size, 3, none⟩ = some (.string ⟨#[]⟩) := by rw [Lib.cell_of_heap hR]; rfl
              have r4 : wr.cell? ⟨w.heap.size, 4, none⟩ = some (.slice none 0 0) := by rw [Lib.cell_of_heap hR]; rfl
              have rf : ∀ i, wr.frozen? ⟨w.heap.size, i, none⟩ = false := fun i => Lib.frozen_of_heap hR i
              have hRl := heap_lt hR
              have hSl := heap_lt hS
              have HR : Hid (wr.heap[w.heap.size]? = some (.cells #[.int .i64 0, .string ⟨#[]⟩, .slice none 0 0, .string ⟨#[]⟩, .slice none 0 0] 27 (0, 0))) := hR
              have hbE : Below w.heap.size w wr := hb
              clear hR hi hz0 hz1 hz2 hj0 hy0 hy1 hy2 q1 q2 q3 q4 q5 q6 hn255 hm255 hcase2 hexit0
              have hRS : w.heap.size ≠ w.heap.size + 1 := by omega
              by_cases hneg : fR j < 0
              · have hgo : gO s = false := by
                  have h4 : (sE s s.size (0, false)).2.2 = true := by
                    cases h4 : (sE s s.size (0, false)).2.2 with
                    | true => rfl
                    | false => have := HP.out; rw [ps_ge h4] at this; omega
                  unfold gO sO sT
                  rw [h4]; rfl
                have HZ : Hid (gT s = zT) := by show _ = _; unfold gT; rw [if_neg (by rw [show sO s s.size (0, false) = gO s from rfl, hgo]; decide)]
                clear HE1 HE2 HE4 HfR HCE HC2 HP HnT HmT hO hQ hS HCr HLr HL
                have hB2 : ¬ (0 ≤ fR j) := by omega
                generalize fR j = pw at *
                by_cases hA2 : (j : Int) < (m : Int)
                · clear hexit
                  go_wp2
                  obtain ⟨c0, c1, c2, c3, c4, c5, c6, c7⟩ := five_out hbE (Nat.le_refl _) HR.out (.int .i64 0) (.string ⟨#[]⟩) (.slice none 0 0) (.string ⟨#[]⟩) (.slice none 0 0)
                  clear r0 r1 r2 r3 r4 rf HR
                  unfold five at c0 c1 c2 c3 c4 c5 c6 c7
                  generalize (World.setCell (World.setCell (World.setCell (World.setCell (World.setCell wr ⟨w.heap.size, 0, none⟩ (.int .i64 0)) ⟨w.heap.size, 1, none⟩ (.string ⟨#[]⟩)) ⟨w.heap.size, 2, none⟩ (.slice none 0 0)) ⟨w.heap.size, 3, none⟩ (.string ⟨#[]⟩)) ⟨w.heap.size, 4, none⟩ (.slice none 0 0)) = wF at c0 c1 c2 c3 c4 c5 c6 c7 ⊢
                  refine bodyPost_ret (results_ct rfl _ _ _ _ ⟨w.heap.size, 0, none⟩ rfl (load5 c0 c1 c2 c3 c4)) rfl ⟨⟨.slice none 0 0, .slice none 0 0, [], [], (by rw [HZ.out]; (try rw [hgo]); rfl), (by rw [HZ.out]; exact StpOwn.nil _ _)⟩, c5⟩
                · clear hexit
                  go_wp2
                  obtain ⟨c0, c1, c2, c3, c4, c5, c6, c7⟩ := five_out hbE (Nat.le_refl _) HR.out (.int .i64 0) (.string ⟨#[]⟩) (.slice none 0 0) (.string ⟨#[]⟩) (.slice none 0 0)
                  clear r0 r1 r2 r3 r4 rf HR
                  unfold five at c0 c1 c2 c3 c4 c5 c6 c7
                  generalize (World.setCell (World.setCell (World.setCell (World.setCell (World.setCell wr ⟨w.heap.size, 0, none⟩ (.int .i64 0)) ⟨w.heap.size, 1, none⟩ (.string ⟨#[]⟩)) ⟨w.heap.size, 2, none⟩ (.slice none 0 0)) ⟨w.heap.size, 3, none⟩ (.string ⟨#[]⟩)) ⟨w.heap.size, 4, none⟩ (.slice none 0 0)) = wF at c0 c1 c2 c3 c4 c5 c6 c7 ⊢
                  refine bodyPost_ret (results_ct rfl _ _ _ _ ⟨w.heap.size, 0, none⟩ rfl (load5 c0 c1 c2 c3 c4)) rfl ⟨⟨.slice none 0 0, .slice none 0 0, [], [], (by rw [HZ.out]; (try rw [hgo]); rfl), (by rw [HZ.out]; exact StpOwn.nil _ _)⟩, c5⟩
              · have hA2 : ¬ ((j : Int) < (m : Int)) := fun h => hneg (hexit h)
                have hT : (sE s s.size (0, false)).2.2 = false := by
                  cases h4 : (sE s s.size (0, false)).2.2 with
                  | false => rfl
                  | true => have := HP.out; rw [ps_lt h4] at this; omega
                have h6 := rln_torn (q := (sM s s.size (0, false)).2) _ hT
                have h5 := nm_torn (q := (sD s s.size (0, false)).2) h6
                have h4 := (tx_torn (q := (sC' s s.size (0, false)).2) h5).2
                have h3 := csn_torn (q := (sN s s.size (0, false)).2) _ h4
                have h2 := nm_torn (q := (sB s s.size (0, false)).2) h3
                have h1 := (tx_torn (q := (sA s s.size (0, false)).2) h2).2
                have E1 := HE1.out h1
                have E2 := HE2.out h2
                have E3 : cs = (sX s s.size (0, false)).cs := HC2.out h4
                have E4 := HE4.out h5
                have E5 : rs = (sX s s.size (0, false)).rs := HCE.out hT
                have hss := step_same s hT
                have hwf := sX_wf (s := s) (e := s.size) (q := (0, false)) (Nat.le_refl _) hs (Nat.zero_le _)
                have HG : Hid (gT s = if gO s = true then sX s s.size (0, false) else zT) := rfl
                have hlk : cs.length = k := HL.out
                obtain ⟨av, cv, rfl⟩ := hQ.shape
                rw [E1, E2, E4] at hS
                subst E3 E5
                rw [← hlk] at hO
                obtain ⟨g, hg, hgO, hgB⟩ := strs_own hO
                obtain ⟨F, hF, hFO⟩ := hQ.relsF
                obtain ⟨e1, e2, e3, _, _⟩ := hg.shape
                obtain ⟨rfl, rfl, rfl⟩ : ac = e1 ∧ nc = (sX s s.size (0, false)).cs.length ∧ cc = e2 := by injection e3 with a b c; exact ⟨a, b, c⟩
                have hIs : StpIs wr (.slice ac (sX s s.size (0, false)).cs.length cc) (.slice av (sX s s.size (0, false)).rs.length cv) (sX s s.size (0, false)) := ⟨⟨g, hg⟩, hF.is⟩
                have Hg : Hid (StrsF wr (.slice ac (sX s s.size (0, false)).cs.length cc) (sX s s.size (0, false)).cs g ∧ (∀ b ∈ g, b ≠ w.heap.size) ∧ RelsF wr (.slice av (sX s s.size (0, false)).rs.length cv) (sX s s.size (0, false)).rs F ∧ (∀ b ∈ F, b ≠ w.heap.size) ∧ Own wr w.heap.size g ∧ Own wr w.heap.size F ∧ ∀ b ∈ g, b ∉ F) := ⟨hg, (fun b hb e => by have := hgO.2.1 b hb; omega), hF, (fun b hb e => by have := hFO.2.1 b hb; omega), ⟨hgO.1, (fun b hb => by have := hgO.2.1 b hb; omega), hgO.2.2⟩, ⟨hFO.1, (fun b hb => by have := hFO.2.1 b hb; omega), hFO.2.2⟩, fun b hb hb2 => by have h8 := hbO b (hgB b hb); have h9 := hFO.2.1 b hb2; omega⟩
                have hPut := specPutStep_any (sX s s.size (0, false)) _ _ wr hwf hIs
                clear HE1 HE2 HE4 HfR HCE HC2 HP HnT HmT hO hQ HCr HLr HL h1 h2 h3 h4 h5 h6 E1 E2 E4 hg hF hgO hFO hgB hlk hwf hexit
                generalize sX s s.size (0, false) = x at *
                generalize fR j = pw at *
                generalize x.cs.length = lc at *
                generalize x.rs.length = lr at *
                have u0 : wr.cell? ⟨w.heap.size + 1, 0, none⟩ = some (.int .i64 x.k) := by rw [Lib.cell_of_heap hS]; rfl
                have u1 : wr.cell? ⟨w.heap.size + 1, 1, none⟩ = some (.string x.s) := by rw [Lib.cell_of_heap hS]; rfl
                have u2 : wr.cell? ⟨w.heap.size + 1, 2, none⟩ = some (.slice ac lc cc) := by rw [Lib.cell_of_heap hS]; rfl
                have u3 : wr.cell? ⟨w.heap.size + 1, 3, none⟩ = some (.string x.q) := by rw [Lib.cell_of_heap hS]; rfl
                have u4 : wr.cell? ⟨w.heap.size + 1, 4, none⟩ = some (.slice av lr cv) := by rw [Lib.cell_of_heap hS]; rfl
                have uf : ∀ i, wr.frozen? ⟨w.heap.size + 1, i, none⟩ = false := fun i => Lib.frozen_of_heap hS i
                by_cases hz : s.size = 0
                · have hgo : gO s = false := by
                    cases h : gO s with
                    | false => rfl
                    | true => exact absurd hz (hss.2 h).1
                  have HZ : Hid (gT s = zT) := by show _ = _; rw [HG.out, if_neg (by rw [hgo]; decide)]
                  have hnil : s.toList = [] := by rw [ByteArray.toList_eq]; exact List.eq_nil_of_length_eq_zero (by simpa using hz)
                  clear hPut hIs hss hS
                  go_wp2
                  obtain ⟨c0, c1, c2, c3, c4, c5, c6, c7⟩ := five_out hbE (Nat.le_refl _) HR.out (.int .i64 0) (.string ⟨#[]⟩) (.slice none 0 0) (.string ⟨#[]⟩) (.slice none 0 0)
                  clear r0 r1 r2 r3 r4 rf HR
                  unfold five at c0 c1 c2 c3 c4 c5 c6 c7
                  generalize (World.setCell (World.setCell (World.setCell (World.setCell (World.setCell wr ⟨w.heap.size, 0, none⟩ (.int .i64 0)) ⟨w.heap.size, 1, none⟩ (.string ⟨#[]⟩)) ⟨w.heap.size, 2, none⟩ (.slice none 0 0)) ⟨w.heap.size, 3, none⟩ (.string ⟨#[]⟩)) ⟨w.heap.size, 4, none⟩ (.slice none 0 0)) = wF at c0 c1 c2 c3 c4 c5 c6 c7 ⊢
                  refine bodyPost_ret (results_ct rfl _ _ _ _ ⟨w.heap.size, 0, none⟩ rfl (load5 c0 c1 c2 c3 c4)) rfl ⟨⟨.slice none 0 0, .slice none 0 0, [], [], (by rw [HZ.out]; (try rw [hgo]); rfl), (by rw [HZ.out]; exact StpOwn.nil _ _)⟩, c5⟩
                · have hne : s.toList.isEmpty = false := by
                    rw [ByteArray.toList_eq]
                    have : s.data.toList.length ≠ 0 := by simpa using hz
                    cases h : s.data.toList with
                    | nil => rw [h] at this; simp at this
                    | cons a l => rfl
                  cases hgo : gO s with
                  | false =>
                    have HZ : Hid (gT s = zT) := by show _ = _; rw [HG.out, if_neg (by rw [hgo]; decide)]
                    have hcmp : ((putT x).toList == s.toList) = false := by
                      rw [beq_eq_false_iff_ne]
                      intro h
                      rw [ByteArray.toList_eq, ByteArray.toList_eq] at h
                      have : putT x = s := ByteArray.ext (Array.ext' h)
                      have := hss.1 ⟨hz, this⟩
                      rw [hgo] at this; cases this
                    have hcmp2 : ((putT x).toList != s.toList) = true := by simp only [bne, hcmp]; rfl
                    clear hss hS hIs
                    go_wp2_with (first | (go_at_call 15; refine Calls.mono hPut ?_; rintro r w4 ⟨rfl, hb4⟩; replace hbE : Below w.heap.size w w4 := hbE.trans (hb4.mono hbE.size); replace HR : Hid (w4.heap[w.heap.size]? = some (.cells #[.int .i64 0, .string ⟨#[]⟩, .slice none 0 0, .string ⟨#[]⟩, .slice none 0 0] 27 (0, 0))) := (hb4.block _ hRl).trans HR.out; replace r0 := cell_later hb4 r0; replace r1 := cell_later hb4 r1; replace r2 := cell_later hb4 r2; replace r3 := cell_later hb4 r3; replace r4 := cell_later hb4 r4; replace rf : ∀ i, w4.frozen? ⟨w.heap.size, i, none⟩ = false := fun i => Lib.frozen_of_heap HR.out i; clear hb4 hb Hg) | fail)
                    obtain ⟨c0, c1, c2, c3, c4, c5, c6, c7⟩ := five_out hbE (Nat.le_refl _) HR.out (.int .i64 0) (.string ⟨#[]⟩) (.slice none 0 0) (.string ⟨#[]⟩) (.slice none 0 0)
                    clear r0 r1 r2 r3 r4 rf HR
                    unfold five at c0 c1 c2 c3 c4 c5 c6 c7
                    generalize (World.setCell (World.setCell (World.setCell (World.setCell (World.setCell w4 ⟨w.heap.size, 0, none⟩ (.int .i64 0)) ⟨w.heap.size, 1, none⟩ (.string ⟨#[]⟩)) ⟨w.heap.size, 2, none⟩ (.slice none 0 0)) ⟨w.heap.size, 3, none⟩ (.string ⟨#[]⟩)) ⟨w.heap.size, 4, none⟩ (.slice none 0 0)) = wF at c0 c1 c2 c3 c4 c5 c6 c7 ⊢
                    refine bodyPost_ret (results_ct rfl _ _ _ _ ⟨w.heap.size, 0, none⟩ rfl (load5 c0 c1 c2 c3 c4)) rfl ⟨⟨.slice none 0 0, .slice none 0 0, [], [], (by rw [HZ.out]; (try rw [hgo]); rfl), (by rw [HZ.out]; exact StpOwn.nil _ _)⟩, c5⟩
                  | true =>
                    have HZ : Hid (gT s = x) := by show _ = _; rw [HG.out, if_pos hgo]
                    have hcmp : ((putT x).toList == s.toList) = true := by rw [(hss.2 hgo).2]; exact beq_self_eq_true _
                    have hcmp2 : ((putT x).toList != s.toList) = false := by simp only [bne, hcmp]; rfl
                    clear hss hS
                    go_wp2_with (first | (go_at_call 15; refine Calls.mono hPut ?_; rintro r w4 ⟨rfl, hb4⟩; replace hbE : Below w.heap.size w w4 := hbE.trans (hb4.mono hbE.size); replace HR : Hid (w4.heap[w.heap.size]? = some (.cells #[.int .i64 0, .string ⟨#[]⟩, .slice none 0 0, .string ⟨#[]⟩, .slice none 0 0] 27 (0, 0))) := (hb4.block _ hRl).trans HR.out; have Hg4 : Hid (StpOwn w4 w.heap.size (.slice ac lc cc) (.slice av lr cv) x g F) := StpOwn.below (w := wr) ⟨Hg.out.1, Hg.out.2.2.1, Hg.out.2.2.2.2.1, Hg.out.2.2.2.2.2.1, Hg.out.2.2.2.2.2.2⟩ hb4; replace r0 := cell_later hb4 r0; replace r1 := cell_later hb4 r1; replace r2 := cell_later hb4 r2; replace r3 := cell_later hb4 r3; replace r4 := cell_later hb4 r4; replace u0 := cell_later hb4 u0; replace u1 := cell_later hb4 u1; replace u2 := cell_later hb4 u2; replace u3 := cell_later hb4 u3; replace u4 := cell_later hb4 u4; replace rf : ∀ i, w4.frozen? ⟨w.heap.size, i, none⟩ = false := fun i => Lib.frozen_of_heap HR.out i; clear hb4 hb uf) | fail)
                    obtain ⟨c0, c1, c2, c3, c4, c5, c6, c7⟩ := five_out hbE (Nat.le_refl _) HR.out (.int .i64 x.k) (.string x.s) (.slice ac lc cc) (.string x.q) (.slice av lr cv)
                    clear r0 r1 r2 r3 r4 rf HR
                    unfold five at c0 c1 c2 c3 c4 c5 c6 c7
                    generalize (World.setCell (World.setCell (World.setCell (World.setCell (World.setCell w4 ⟨w.heap.size, 0, none⟩ (.int .i64 x.k)) ⟨w.heap.size, 1, none⟩ (.string x.s)) ⟨w.heap.size, 2, none⟩ (.slice ac lc cc)) ⟨w.heap.size, 3, none⟩ (.string x.q)) ⟨w.heap.size, 4, none⟩ (.slice av lr cv)) = wF at c0 c1 c2 c3 c4 c5 c6 c7 ⊢
                    have hIsF : StpOwn wF w.heap.size (.slice ac lc cc) (.slice av lr cv) x g F := ⟨Hg4.out.1.keep (Nat.le_of_eq c7.symm) (fun b hb => c6 b (Hg.out.2.1 b hb)), Hg4.out.2.1.keep (Nat.le_of_eq c7.symm) (fun b hb => c6 b (Hg.out.2.2.2.1 b hb)), Hg4.out.2.2.1.keep (fun b hb => c6 b (Hg.out.2.1 b hb)), Hg4.out.2.2.2.1.keep (fun b hb => c6 b (Hg.out.2.2.2.1 b hb)), Hg4.out.2.2.2.2⟩
                    refine bodyPost_ret (results_ct rfl _ _ _ _ ⟨w.heap.size, 0, none⟩ rfl (load5 c0 c1 c2 c3 c4)) rfl ⟨⟨.slice ac lc cc, .slice av lr cv, g, F, (by rw [HZ.out]; (try rw [hgo]); rfl), (by rw [HZ.out]; exact hIsF)⟩, c5⟩
      · have hB1 : ¬ (0 ≤ pv) := by omega
        go_wp2_with (first | (go_at_call 36; with_reducible refine Calls.mono hP5 ?_; rintro r w1 ⟨rfl, hw1⟩; obtain rfl : wr = w1 := hw1.symm) | (go_at_call 29; with_reducible refine Calls.mono (P6 _) ?_; rintro r w1 ⟨rfl, hw1⟩; obtain rfl := hw1) | fail)
        have hS2 : (wr.setCell ⟨w.heap.size + 1, 3, none⟩ (.string (gtV s 2 (sC' s s.size (0, false)).2))).heap[w.heap.size + 1]? = some (.cells #[.int .i64 (gnV s 1 (0, false)), .string (gtV s 2 (sA s s.size (0, false)).2), .slice ac nc cc, .string (gtV s 2 (sC' s s.size (0, false)).2), .slice none 0 0] 27 (0, 0)) := by rw [set_blk hS]; rfl
        have hR2 : (wr.setCell ⟨w.heap.size + 1, 3, none⟩ (.string (gtV s 2 (sC' s s.size (0, false)).2))).heap[w.heap.size]? = some (.cells #[.int .i64 0, .string ⟨#[]⟩, .slice none 0 0, .string ⟨#[]⟩, .slice none 0 0] 27 (0, 0)) := (Below.heap_setCell _ _ _ _ (by intro e; dsimp only at e; omega)).trans hR
        have hneS := own_typ hO hS (by decide)
        have hO2 : (wr.setCell ⟨w.heap.size + 1, 3, none⟩ (.string (gtV s 2 (sC' s s.size (0, false)).2))).ownsRow (w.heap.size + 2) 9 1 (.slice ac nc cc) k (cs.map Value.string) := ownsRow_keep hO fun b hv => Below.heap_setCell _ _ _ _ (by rintro rfl; exact hneS hv)
        have hb2 : Below w.heap.size w (wr.setCell ⟨w.heap.size + 1, 3, none⟩ (.string (gtV s 2 (sC' s s.size (0, false)).2))) := hb.setCell (p := ⟨w.heap.size + 1, 3, none⟩) (by simp) _
        clear hS hR hO hb t2 t3 hneS hP5 P6
        generalize wr.setCell ⟨w.heap.size + 1, 3, none⟩ (.string (gtV s 2 (sC' s s.size (0, false)).2)) = wS at *
        have hSl2 := heap_lt hS2
        have hbO := fun b hb => (ownsRow_lt hO2 b hb).2
        have HE1 : Hid ((sA s s.size (0, false)).2.2 = false → gnV s 1 (0, false) = (sX s s.size (0, false)).k) := by
          intro h1; show _ = _; unfold gnV; rw [if_neg (by rw [show (nm s s.size 1 (0, false)).2.2 = (sA s s.size (0, false)).2.2 from rfl, h1]; decide)]; rfl
        have HE2 : Hid ((sB s s.size (0, false)).2.2 = false → gtV s 2 (sA s s.size (0, false)).2 = (sX s s.size (0, false)).s) := by
          intro h2; show _ = _; unfold gtV; rw [if_neg (by rw [show (tx s s.size 2 (sA s s.size (0, false)).2).2.2 = (sB s s.size (0, false)).2.2 from rfl, h2]; decide)]; rfl
        have HE4 : Hid ((sD s s.size (0, false)).2.2 = false → (gtV s 2 (sC' s s.size (0, false)).2) = (sX s s.size (0, false)).q) := by
          intro h5; show _ = _; unfold gtV; rw [if_neg (by rw [show (tx s s.size 2 (sC' s s.size (0, false)).2).2.2 = (sD s s.size (0, false)).2.2 from rfl, h5]; decide)]; rfl
        obtain ⟨fR, HfR⟩ : ∃ f : Nat → Int, Hid (∀ j, ps (rln s s.size (sM s s.size (0, false)).2 j).2 = f j) := ⟨fun j => ps (rln s s.size (sM s s.size (0, false)).2 j).2, fun _ => rfl⟩
        rw [show ps (sM s s.size (0, false)).2 = fR 0 from HfR.out 0]
        generalize gnV s 1 (0, false) = kA at *
        generalize gtV s 2 (sA s s.size (0, false)).2 = tA at *
        generalize (gtV s 2 (sC' s s.size (0, false)).2) = tD at *
        generalize ps (sA s s.size (0, false)).2 = pA
        generalize ps (sB s s.size (0, false)).2 = pB
        generalize ps (sN s s.size (0, false)).2 = pN
        generalize ps (sD s s.size (0, false)).2 = pD
        go_loopw [17, 18] (fun fr i wq => ∃ (j : Nat) (rs : List R3) (v : Value) (us : List Value) (G : List (List Nat)), j ≤ m ∧ i = .int .i64 j ∧ fr = .int .i64 (fR j) ∧ Hid (rs.length = j) ∧ Hid ((rln s s.size (sM s s.size (0, false)).2 j).2.2 = false → rs = (rln s s.size (sM s s.size (0, false)).2 j).1) ∧ wq.heap[w.heap.size + 1]? = some (.cells #[.int .i64 (kA), .string tA, .slice ac nc cc, .string tD, v] 27 (0, 0)) ∧ wq.heap[w.heap.size]? = some (.cells #[.int .i64 0, .string ⟨#[]⟩, .slice none 0 0, .string ⟨#[]⟩, .slice none 0 0] 27 (0, 0)) ∧ wq.ownsRow (w.heap.size + 2) 9 1 (.slice ac nc cc) k (cs.map Value.string) ∧ RelOwn wq wS.heap.size v rs us G ∧ Below w.heap.size w wq ∧ wS.heap.size ≤ wq.heap.size) (fun _ i _ => m - (intOf i).toNat)
        case atStart => exact ⟨0, [], .slice none 0 0, [], [], Nat.zero_le _, rfl, rfl, rfl, fun _ => rfl, hS2, hR2, hO2, ⟨⟨rfl, .inl ⟨rfl, rfl⟩⟩, rfl, rfl, fun i x u g hx => by simp at hx, by simp [Own, Free], fun b _ => by simp⟩, hb2, Nat.le_refl _⟩
        case round =>
          clear hS2 hR2 hO2 hb2
          obtain ⟨j, rs, v, us, G, hj, rfl, rfl, HLr, HCr, hS, hR, hO, hQ, hb, hzS⟩ := hrel
          by_cases hgo2 : j < m ∧ (rln s s.size (sM s s.size (0, false)).2 j).2.2 = false
          · obtain ⟨hlt, ht⟩ := hgo2
            have hp0 : 0 ≤ fR j := by rw [← HfR.out j, ps_ge ht]; omega
            have hjI : (j : Int) < (m : Int) := by omega
            have hqj : (rln s s.size (sM s s.size (0, false)).2 j).2.1 ≤ s.size := rln_at q6 j
            have hqt : (tx s s.size 2 (rln s s.size (sM s s.size (0, false)).2 j).2).2.1 ≤ s.size := tx_at hqj
            have hP7 := l10Get_any s (rln s s.size (sM s s.size (0, false)).2 j).2 2 wr hqj hs (by omega)
            rw [HfR.out j] at hP7
            have hP8 := l10Get_any s (tx s s.size 2 (rln s s.size (sM s s.size (0, false)).2 j).2).2 4 wr hqt hs (by omega)
            have hsz2 : (gtV s 4 (tx s s.size 2 (rln s s.size (sM s s.size (0, false)).2 j).2).2).size ≤ 1048576 := by
              unfold gtV
              split
              · exact Nat.zero_le _
              · exact Nat.le_trans (tk_size (Nat.le_refl _) (nm_at hqt)) hs
            have hGB := specGetBag_any (gtV s 4 (tx s s.size 2 (rln s s.size (sM s s.size (0, false)).2 j).2).2) wr hsz2
            have HBad : Hid (aB (gtV s 4 (tx s s.size 2 (rln s s.size (sM s s.size (0, false)).2 j).2).2) = false → gO s = false) := by
              intro hab
              have h1 : (rln s s.size (sM s s.size (0, false)).2 (j + 1)).2.2 = true := rl_bad hab
              have h2 := rln_torn (q := (sM s s.size (0, false)).2) _ ht
              have h3 := HmT.out h2
              have h4 : (sE s s.size (0, false)).2.2 = true := by
                have := rln_late (s := s) (e := s.size) (q := (sM s s.size (0, false)).2) (k := j + 1) (d := m - (j + 1)) h1
                rw [show j + 1 + (m - (j + 1)) = (sM s s.size (0, false)).1.toNat by omega] at this
                exact this
              unfold gO sO sT
              rw [h4]; rfl
            have HNx : Hid (aB (gtV s 4 (tx s s.size 2 (rln s s.size (sM s s.size (0, false)).2 j).2).2) = true → ps (tx s s.size 4 (tx s s.size 2 (rln s s.size (sM s s.size (0, false)).2 j).2).2).2 = fR (j + 1)) := fun hab => by show _ = _; rw [← HfR.out]; exact ps_rl hab
            have HEq : Hid ((rln s s.size (sM s s.size (0, false)).2 (j + 1)).2.2 = false → rs ++ [⟨gtV s 2 (rln s s.size (sM s s.size (0, false)).2 j).2, aW (gtV s 4 (tx s s.size 2 (rln s s.size (sM s s.size (0, false)).2 j).2).2), aC (gtV s 4 (tx s s.size 2 (rln s s.size (sM s s.size (0, false)).2 j).2).2)⟩] = (rln s s.size (sM s s.size (0, false)).2 (j + 1)).1) := by
              intro h
              rw [rl_eq (q := (rln s s.size (sM s s.size (0, false)).2 j).2) h, HCr.out ht]; rfl
            generalize gtV s 2 (rln s s.size (sM s s.size (0, false)).2 j).2 = T1 at *
            generalize gtV s 4 (tx s s.size 2 (rln s s.size (sM s s.size (0, false)).2 j).2).2 = T2 at *
            generalize ps (tx s s.size 4 (tx s s.size 2 (rln s s.size (sM s s.size (0, false)).2 j).2).2).2 = p3 at *
            generalize ps (tx s s.size 2 (rln s s.size (sM s s.size (0, false)).2 j).2).2 = p2 at *
            go_wp2_with (first | (go_at_call 36; with_reducible refine Calls.mono hP7 ?_; rintro r w1 ⟨rfl, hw1⟩; obtain rfl : wr = w1 := hw1.symm) | (go_at_call 36; with_reducible refine Calls.mono hP8 ?_; rintro r w1 ⟨rfl, hw1⟩; obtain rfl : wr = w1 := hw1.symm) | (go_at_call 37; with_reducible refine Calls.mono hGB ?_) | fail)
            rintro r w3 ⟨⟨u3, us3, G3, rfl, hBag⟩, hb3⟩
            obtain ⟨a3, c3, rfl⟩ := hBag.shape
            cases hab : aB T2
            · as_aux_lemma =>
                have hgo := HBad.out hab
                have HZ : Hid (gT s = zT) := by show _ = _; unfold gT; rw [if_neg (by rw [show sO s s.size (0, false) = gO s from rfl, hgo]; decide)]
                have hR3 : (w3.alloc (.cells #[.int .i64 (aW T2), .slice a3 (aC T2).length c3] 71)).heap[w.heap.size]? = some (.cells #[.int .i64 0, .string ⟨#[]⟩, .slice none 0 0, .string ⟨#[]⟩, .slice none 0 0] 27 (0, 0)) := (heap_alloc_old w3 _ (Nat.lt_of_lt_of_le (heap_lt hR) hb3.size)).trans ((hb3.block _ (heap_lt hR)).trans hR)
                have hbE : Below w.heap.size w (w3.alloc (.cells #[.int .i64 (aW T2), .slice a3 (aC T2).length c3] 71)) := (hb.trans (hb3.mono hb.size)).alloc (Nat.le_trans hb.size hb3.size) _
                clear hR hS hO hQ hb hb3 hBag HBad HNx HEq HCr HLr hP7 hP8 hGB
                clear HE1 HE2 HE4 HfR q1 q2 q3 q4 q5 q6 HnT HmT hn255 hm255 hcase2 hexit0 HL HP HC2 hi hz0 hz1 hz2 hj0 hy0 hy1 hy2 hSl2 hbO
                go_upto_region 22 with fail
                generalize w3.alloc (.cells #[.int .i64 (aW T2), .slice a3 (aC T2).length c3] 71) = wb at *
                have r0 : wb.cell? ⟨w.heap.size, 0, none⟩ = some (.int .i64 0) := by rw [Lib.cell_of_heap hR3]; rfl
                have r1 : wb.cell? ⟨w.heap.size, 1, none⟩ = some (.string ⟨#[]⟩) := by rw [Lib.cell_of_heap hR3]; rfl
                have r2 : wb.cell? ⟨w.heap.size, 2, none⟩ = some (.slice none 0 0) := by rw [Lib.cell_of_heap hR3]; rfl
                have r3 : wb.cell? ⟨w.heap.size, 3, none⟩ = some (.string ⟨#[]⟩) := by rw [Lib.cell_of_heap hR3]; rfl
                have r4 : wb.cell? ⟨w.heap.size, 4, none⟩ = some (.slice none 0 0) := by rw [Lib.cell_of_heap hR3]; rfl
                have rf : ∀ i, wb.frozen? ⟨w.heap.size, i, none⟩ = false := fun i => Lib.frozen_of_heap hR3 i
                have hRl := heap_lt hR3
                have HR : Hid (wb.heap[w.heap.size]? = some (.cells #[.int .i64 0, .string ⟨#[]⟩, .slice none 0 0, .string ⟨#[]⟩, .slice none 0 0] 27 (0, 0))) := hR3
                clear hR3
                go_wp2
                obtain ⟨c0, c1, c2, c3, c4, c5, c6, c7⟩ := five_out hbE (Nat.le_refl _) HR.out (.int .i64 0) (.string ⟨#[]⟩) (.slice none 0 0) (.string ⟨#[]⟩) (.slice none 0 0)
                clear r0 r1 r2 r3 r4 rf HR
                unfold five at c0 c1 c2 c3 c4 c5 c6 c7
                generalize (World.setCell (World.setCell (World.setCell (World.setCell (World.setCell wb ⟨w.heap.size, 0, none⟩ (.int .i64 0)) ⟨w.heap.size, 1, none⟩ (.string ⟨#[]⟩)) ⟨w.heap.size, 2, none⟩ (.slice none 0 0)) ⟨w.heap.size, 3, none⟩ (.string ⟨#[]⟩)) ⟨w.heap.size, 4, none⟩ (.slice none 0 0)) = wF at c0 c1 c2 c3 c4 c5 c6 c7 ⊢
                refine bodyPost_ret (results_ct rfl _ _ _ _ ⟨w.heap.size, 0, none⟩ rfl (load5 c0 c1 c2 c3 c4)) rfl ⟨⟨.slice none 0 0, .slice none 0 0, [], [], (by rw [HZ.out]; (try rw [hgo]); rfl), (by rw [HZ.out]; exact StpOwn.nil _ _)⟩, c5⟩
            · as_aux_lemma =>
                have hnx := HNx.out hab
                obtain ⟨F2, hF2, hO2⟩ := hBag.rowsF
                have hGl := hQ.lt
                have hul := ownsRow_lt hQ.own
                have hSl3 := heap_lt hS
                have hRl3 := heap_lt hR
                have hzr := hb3.size
                have hbO3 := fun b hb => (ownsRow_lt hO b hb).2
                have bal : Below w3.heap.size w3 ((w3.alloc (.cells #[.int .i64 (aW T2), .slice a3 (aC T2).length c3] 71)).alloc (.cells #[.string T1, .int .i64 (aW T2), .slice a3 (aC T2).length c3] 73)) := ((Below.refl _ _).alloc (Nat.le_refl _) _).alloc (by simp) _
                have bA : Below wr.heap.size wr ((w3.alloc (.cells #[.int .i64 (aW T2), .slice a3 (aC T2).length c3] 71)).alloc (.cells #[.string T1, .int .i64 (aW T2), .slice a3 (aC T2).length c3] 73)) := hb3.trans (bal.mono hzr)
                have hS4 : ((w3.alloc (.cells #[.int .i64 (aW T2), .slice a3 (aC T2).length c3] 71)).alloc (.cells #[.string T1, .int .i64 (aW T2), .slice a3 (aC T2).length c3] 73)).heap[w.heap.size + 1]? = some (.cells #[.int .i64 kA, .string tA, .slice ac nc cc, .string tD, v] 27 (0, 0)) := (bA.block _ hSl3).trans hS
                have hR4 : ((w3.alloc (.cells #[.int .i64 (aW T2), .slice a3 (aC T2).length c3] 71)).alloc (.cells #[.string T1, .int .i64 (aW T2), .slice a3 (aC T2).length c3] 73)).heap[w.heap.size]? = some (.cells #[.int .i64 0, .string ⟨#[]⟩, .slice none 0 0, .string ⟨#[]⟩, .slice none 0 0] 27 (0, 0)) := (bA.block _ hRl3).trans hR
                have hO4 : ((w3.alloc (.cells #[.int .i64 (aW T2), .slice a3 (aC T2).length c3] 71)).alloc (.cells #[.string T1, .int .i64 (aW T2), .slice a3 (aC T2).length c3] 73)).ownsRow (w.heap.size + 2) 9 1 (.slice ac nc cc) k (cs.map Value.string) := ownsRow_keep hO fun b hv => bA.block b (hbO3 b hv)
                have hQ4 := hQ.below bA
                have hbE : Below w.heap.size w ((w3.alloc (.cells #[.int .i64 (aW T2), .slice a3 (aC T2).length c3] 71)).alloc (.cells #[.string T1, .int .i64 (aW T2), .slice a3 (aC T2).length c3] 73)) := hb.trans (bA.mono hb.size)
                have hF4 := hF2.below bal
                have hOw4 : Own ((w3.alloc (.cells #[.int .i64 (aW T2), .slice a3 (aC T2).length c3] 71)).alloc (.cells #[.string T1, .int .i64 (aW T2), .slice a3 (aC T2).length c3] 73)) wS.heap.size F2 := ⟨hO2.1, fun b hb => Nat.le_trans hzS (hO2.2.1 b hb), fun b hb i => (frozen_blk (bal.block _ (hF2.lt b hb))).trans (hO2.2.2 b hb i)⟩
                have hd1 : ∀ b ∈ G.flatten, b ∉ F2 := fun b hb hb2 => by have := hO2.2.1 b hb2; have := hGl b hb; omega
                have hd2 : ∀ b, v.ownBlock = some b → b ∉ F2 := fun b hb hb2 => by have := hO2.2.1 b hb2; have := (hul b hb).2; omega
                have hrl : ((w3.alloc (.cells #[.int .i64 (aW T2), .slice a3 (aC T2).length c3] 71)).alloc (.cells #[.string T1, .int .i64 (aW T2), .slice a3 (aC T2).length c3] 73)).heap[w3.heap.size + 1]? = some (.cells #[.string T1, .int .i64 (aW T2), .slice a3 (aC T2).length c3] 73 (0, 0)) := alloc2_new _ _ _
                obtain ⟨av, cv, rfl⟩ := hQ.shape
                have t0 : w3.cell? ⟨w.heap.size + 1, 4, none⟩ = some (.slice av rs.length cv) := by rw [Lib.cell_of_heap ((hb3.block _ hSl3).trans hS)]; rfl
                have hl3 : w.heap.size + 1 < w3.heap.size := by omega
                have hlenJ : rs.length = j := HLr.out
                have HLJ : Hid (rs.length = j) := hlenJ
                have hz4 : wS.heap.size ≤ w3.heap.size := by omega
                have hml : rs.length ≤ 255 := by omega
                clear hlenJ hb3 hBag hO hQ hb hS hR hO2 hF2 HBad HCr HLr hP7 hP8 hGB HNx bA bal
                have ho4 := hQ4.own
                go_wp2_with (at_builtin; (refine wpList_append_own_at _ rfl _ _ 25 rfl wS.heap.size 73 j0 _ 3 48 Tryz.underlying25 hj0 hy0 hy1 hy2 rfl (by decide) _ _ _ rfl ho4 ⟨w3.heap.size + 1, 0, none⟩ 1 1 [.string T1, .int .i64 (aW T2), .slice a3 (aC T2).length c3] rfl (by simp) ?c1 ?c2 ?c3 ?c4 ?c5 ?_))
                case c1 => exact World.news_of_block (cs := #[.string T1, .int .i64 (aW T2), .slice a3 (aC T2).length c3]) (t := 73) (fr := (0, 0)) hrl
                case c2 => simp [Value.oneCell']
                case c3 => unfold maxLen; omega
                case c4 => omega
                case c5 => simp; omega
                intro v' w5 hown' hgrow _ hat
                have hneS := own_typ ho4 hS4 (by decide)
                have hneR := own_typ ho4 hR4 (by decide)
                have hS5 : w5.heap[w.heap.size + 1]? = some (.cells #[.int .i64 kA, .string tA, .slice ac nc cc, .string tD, .slice av rs.length cv] 27 (0, 0)) := (hgrow.block _ (heap_lt hS4) (fun e => hneS e.symm)).trans hS4
                have hR5 : w5.heap[w.heap.size]? = some (.cells #[.int .i64 0, .string ⟨#[]⟩, .slice none 0 0, .string ⟨#[]⟩, .slice none 0 0] 27 (0, 0)) := (hgrow.block _ (heap_lt hR4) (fun e => hneR e.symm)).trans hR4
                have hO5 : w5.ownsRow (w.heap.size + 2) 9 1 (.slice ac nc cc) k (cs.map Value.string) := ownsRow_keep hO4 fun b hv => hgrow.block b (ownsRow_lt hO4 b hv).2 (fun e => by have h1 := (hul b e.symm).1; have h2 := hbO b hv; omega)
                have hQ5 := RelOwn.push (x := ⟨T1, aW T2, aC T2⟩) hQ4 hF4 hOw4 hd1 hd2 hown' hgrow (fun b hb => by
                  rcases hat with e | e
                  · left; rw [← e]; exact hb
                  · right; rw [e] at hb; cases hb; simp)
                have hb5 : Below w.heap.size w w5 := hbE.grown hgrow (by simp; omega) (fun b hb => by have := (hul b hb).1; omega)
                have hne5 := own_typ hown' hS5 (by decide)
                have hsz5 := hgrow.size
                simp only [World.size_alloc] at hsz5
                have hs5 : ∃ ao n' cap, v' = .slice ao n' cap := by
                  rcases hown'.2 with ⟨hv, _⟩ | ⟨g, cap, cur, hv, _⟩ <;> exact ⟨_, _, _, hv⟩
                obtain ⟨ao, n', cap, rfl⟩ := hs5
                have t3 : w5.cell? ⟨w.heap.size + 1, 4, none⟩ = some (.slice av rs.length cv) := by rw [Lib.cell_of_heap hS5]; rfl
                have t4 : w5.frozen? ⟨w.heap.size + 1, 4, none⟩ = false := Lib.frozen_of_heap hS5 4
                have hS6 : (w5.setCell ⟨w.heap.size + 1, 4, none⟩ (.slice ao n' cap)).heap[w.heap.size + 1]? = some (.cells #[.int .i64 kA, .string tA, .slice ac nc cc, .string tD, .slice ao n' cap] 27 (0, 0)) := by rw [set_blk hS5]; rfl
                have hR6 : (w5.setCell ⟨w.heap.size + 1, 4, none⟩ (.slice ao n' cap)).heap[w.heap.size]? = some (.cells #[.int .i64 0, .string ⟨#[]⟩, .slice none 0 0, .string ⟨#[]⟩, .slice none 0 0] 27 (0, 0)) := (Below.heap_setCell _ _ _ _ (by intro e; dsimp only at e; omega)).trans hR5
                have hneO := own_typ hO5 hS5 (by decide)
                have hO6 : (w5.setCell ⟨w.heap.size + 1, 4, none⟩ (.slice ao n' cap)).ownsRow (w.heap.size + 2) 9 1 (.slice ac nc cc) k (cs.map Value.string) := ownsRow_keep hO5 fun b hv => Below.heap_setCell _ _ _ _ (by rintro rfl; exact hneO hv)
                have hQ6 := hQ5.keepF (w' := w5.setCell ⟨w.heap.size + 1, 4, none⟩ (.slice ao n' cap)) (by simp) (fun b hv => Below.heap_setCell _ _ _ _ (by rintro rfl; exact hne5 hv)) (fun b hb => Below.heap_setCell _ _ _ _ (by intro e; have := hQ5.free.2.1 _ hb; dsimp only at e; omega))
                have hb6 : Below w.heap.size w (w5.setCell ⟨w.heap.size + 1, 4, none⟩ (.slice ao n' cap)) := hb5.setCell (p := ⟨w.heap.size + 1, 4, none⟩) (by simp) _
                have hz6 : wS.heap.size ≤ (w5.setCell ⟨w.heap.size + 1, 4, none⟩ (.slice ao n' cap)).heap.size := by simp; omega
                have HL6 : Hid ((rs ++ [(⟨T1, aW T2, aC T2⟩ : R3)]).length = j + 1) := by show _ = _; rw [List.length_append, HLJ.out]; rfl
                have HQ6 : Hid (RelOwn (w5.setCell ⟨w.heap.size + 1, 4, none⟩ (.slice ao n' cap)) wS.heap.size (.slice ao n' cap) (rs ++ [⟨T1, aW T2, aC T2⟩]) (us ++ [.slice a3 (aC T2).length c3]) (G ++ [F2])) := hQ6
                clear hQ4 hQ5 hQ6 hown' hgrow hat hF4 hOw4 hO4 hO5 hS4 hS5 hR4 hR5 ho4 hb5 hbE t0 hrl hne5 hneS hneR hneO
                go_wp2
                exact ⟨⟨j + 1, rs ++ [⟨T1, aW T2, aC T2⟩], _, _, _, hlt, by simp, (by first | rfl | rw [hnx]), HL6, HEq, hS6, hR6, hO6, HQ6.out, hb6, hz6⟩, by simp [intOf]; omega⟩
          · as_aux_lemma =>
              have hexit : (j : Int) < (m : Int) → fR j < 0 := by
                intro h1
                rw [← HfR.out j]
                cases ht : (rln s s.size (sM s s.size (0, false)).2 j).2.2
                · exact absurd ⟨by omega, ht⟩ hgo2
                · rw [ps_lt ht]; decide
              have HP : Hid (fR j = ps (sE s s.size (0, false)).2) := by
                show _ = _
                rw [← HfR.out j]
                cases ht : (sM s s.size (0, false)).2.2 with
                | true =>
                  have h1 : (rln s s.size (sM s s.size (0, false)).2 j).2.2 = true := by have := rln_late (s := s) (e := s.size) (q := (sM s s.size (0, false)).2) (k := 0) (d := j) ht; rwa [Nat.zero_add] at this
                  have h2 : (sE s s.size (0, false)).2.2 = true := by have := rln_late (s := s) (e := s.size) (q := (sM s s.size (0, false)).2) (k := 0) (d := (sM s s.size (0, false)).1.toNat) ht; rwa [Nat.zero_add] at this
                  rw [ps_lt h1, ps_lt h2]
                | false =>
                  have hnn := HmT.out ht
                  by_cases h1 : j < m
                  · have h2 := hexit (by omega)
                    rw [← HfR.out j] at h2
                    have h3 : (rln s s.size (sM s s.size (0, false)).2 j).2.2 = true := by
                      cases h4 : (rln s s.size (sM s s.size (0, false)).2 j).2.2 with
                      | true => rfl
                      | false => rw [ps_ge h4] at h2; omega
                    have h5 : (sE s s.size (0, false)).2.2 = true := by
                      have := rln_late (s := s) (e := s.size) (q := (sM s s.size (0, false)).2) (k := j) (d := m - j) h3
                      rw [show j + (m - j) = (sM s s.size (0, false)).1.toNat by omega] at this
                      exact this
                    rw [ps_lt h3, ps_lt h5]
                  · have : j = (sM s s.size (0, false)).1.toNat := by omega
                    rw [this]; rfl
              have HCE : Hid ((sE s s.size (0, false)).2.2 = false → rs = (sE s s.size (0, false)).1) := by
                intro h
                have h0 := rln_torn (q := (sM s s.size (0, false)).2) _ h
                have hnn := HmT.out h0
                have h1 : ¬ j < m := by
                  intro h1
                  have h2 := hexit (by omega)
                  have h3 := HP.out
                  rw [ps_ge h] at h3
                  omega
                have : j = (sM s s.size (0, false)).1.toNat := by omega
                have h4 := HCr.out (by rw [this]; exact h)
                rw [h4, this]; rfl
              have r0 : wr.cell? ⟨w.heap.size, 0, none⟩ = some (.int .i64 0) := by rw [Lib.cell_of_heap hR]; rfl
              have r1 : wr.cell? ⟨w.heap.size, 1, none⟩ = some (.string ⟨#[]⟩) := by rw [Lib.cell_of_heap hR]; rfl
              have r2 : wr.cell? ⟨w.heap.size, 2, none⟩ = some (.slice none 0 0) := by rw [Lib.cell_of_heap hR]; rfl
              have r3 : wr.cell? ⟨w.heap.size, 3, none⟩ = some (.string ⟨#[]⟩) := by rw [Lib.cell_of_heap hR]; rfl
              have r4 : wr.cell? ⟨w.heap.size, 4, none⟩ = some (.slice none 0 0) := by rw [Lib.cell_of_heap hR]; rfl
              have rf : ∀ i, wr.frozen? ⟨w.heap.size, i, none⟩ = false := fun i => Lib.frozen_of_heap hR i
              have hRl := heap_lt hR
              have hSl := heap_lt hS
              have HR : Hid (wr.heap[w.heap.size]? = some (.cells #[.int .i64 0, .string ⟨#[]⟩, .slice none 0 0, .string ⟨#[]⟩, .slice none 0 0] 27 (0, 0))) := hR
              have hbE : Below w.heap.size w wr := hb
              clear hR hi hz0 hz1 hz2 hj0 hy0 hy1 hy2 q1 q2 q3 q4 q5 q6 hn255 hm255 hcase2 hexit0
              have hRS : w.heap.size ≠ w.heap.size + 1 := by omega
              by_cases hneg : fR j < 0
              · have hgo : gO s = false := by
                  have h4 : (sE s s.size (0, false)).2.2 = true := by
                    cases h4 : (sE s s.size (0, false)).2.2 with
                    | true => rfl
                    | false => have := HP.out; rw [ps_ge h4] at this; omega
                  unfold gO sO sT
                  rw [h4]; rfl
                have HZ : Hid (gT s = zT) := by show _ = _; unfold gT; rw [if_neg (by rw [show sO s s.size (0, false) = gO s from rfl, hgo]; decide)]
                clear HE1 HE2 HE4 HfR HCE HC2 HP HnT HmT hO hQ hS HCr HLr HL
                have hB2 : ¬ (0 ≤ fR j) := by omega
                generalize fR j = pw at *
                by_cases hA2 : (j : Int) < (m : Int)
                · clear hexit
                  go_wp2
                  obtain ⟨c0, c1, c2, c3, c4, c5, c6, c7⟩ := five_out hbE (Nat.le_refl _) HR.out (.int .i64 0) (.string ⟨#[]⟩) (.slice none 0 0) (.string ⟨#[]⟩) (.slice none 0 0)
                  clear r0 r1 r2 r3 r4 rf HR
                  unfold five at c0 c1 c2 c3 c4 c5 c6 c7
                  generalize (World.setCell (World.setCell (World.setCell (World.setCell (World.setCell wr ⟨w.heap.size, 0, none⟩ (.int .i64 0)) ⟨w.heap.size, 1, none⟩ (.string ⟨#[]⟩)) ⟨w.heap.size, 2, none⟩ (.slice none 0 0)) ⟨w.heap.size, 3, none⟩ (.string ⟨#[]⟩)) ⟨w.heap.size, 4, none⟩ (.slice none 0 0)) = wF at c0 c1 c2 c3 c4 c5 c6 c7 ⊢
                  refine bodyPost_ret (results_ct rfl _ _ _ _ ⟨w.heap.size, 0, none⟩ rfl (load5 c0 c1 c2 c3 c4)) rfl ⟨⟨.slice none 0 0, .slice none 0 0, [], [], (by rw [HZ.out]; (try rw [hgo]); rfl), (by rw [HZ.out]; exact StpOwn.nil _ _)⟩, c5⟩
                · clear hexit
                  go_wp2
                  obtain ⟨c0, c1, c2, c3, c4, c5, c6, c7⟩ := five_out hbE (Nat.le_refl _) HR.out (.int .i64 0) (.string ⟨#[]⟩) (.slice none 0 0) (.string ⟨#[]⟩) (.slice none 0 0)
                  clear r0 r1 r2 r3 r4 rf HR
                  unfold five at c0 c1 c2 c3 c4 c5 c6 c7
                  generalize (World.setCell (World.setCell (World.setCell (World.setCell (World.setCell wr ⟨w.heap.size, 0, none⟩ (.int .i64 0)) ⟨w.heap.size, 1, none⟩ (.string ⟨#[]⟩)) ⟨w.heap.size, 2, none⟩ (.slice none 0 0)) ⟨w.heap.size, 3, none⟩ (.string ⟨#[]⟩)) ⟨w.heap.size, 4, none⟩ (.slice none 0 0)) = wF at c0 c1 c2 c3 c4 c5 c6 c7 ⊢
                  refine bodyPost_ret (results_ct rfl _ _ _ _ ⟨w.heap.size, 0, none⟩ rfl (load5 c0 c1 c2 c3 c4)) rfl ⟨⟨.slice none 0 0, .slice none 0 0, [], [], (by rw [HZ.out]; (try rw [hgo]); rfl), (by rw [HZ.out]; exact StpOwn.nil _ _)⟩, c5⟩
              · have hA2 : ¬ ((j : Int) < (m : Int)) := fun h => hneg (hexit h)
                have hT : (sE s s.size (0, false)).2.2 = false := by
                  cases h4 : (sE s s.size (0, false)).2.2 with
                  | false => rfl
                  | true => have := HP.out; rw [ps_lt h4] at this; omega
                have h6 := rln_torn (q := (sM s s.size (0, false)).2) _ hT
                have h5 := nm_torn (q := (sD s s.size (0, false)).2) h6
                have h4 := (tx_torn (q := (sC' s s.size (0, false)).2) h5).2
                have h3 := csn_torn (q := (sN s s.size (0, false)).2) _ h4
                have h2 := nm_torn (q := (sB s s.size (0, false)).2) h3
                have h1 := (tx_torn (q := (sA s s.size (0, false)).2) h2).2
                have E1 := HE1.out h1
                have E2 := HE2.out h2
                have E3 : cs = (sX s s.size (0, false)).cs := HC2.out h4
                have E4 := HE4.out h5
                have E5 : rs = (sX s s.size (0, false)).rs := HCE.out hT
                have hss := step_same s hT
                have hwf := sX_wf (s := s) (e := s.size) (q := (0, false)) (Nat.le_refl _) hs (Nat.zero_le _)
                have HG : Hid (gT s = if gO s = true then sX s s.size (0, false) else zT) := rfl
                have hlk : cs.length = k := HL.out
                obtain ⟨av, cv, rfl⟩ := hQ.shape
                rw [E1, E2, E4] at hS
                subst E3 E5
                rw [← hlk] at hO
                obtain ⟨g, hg, hgO, hgB⟩ := strs_own hO
                obtain ⟨F, hF, hFO⟩ := hQ.relsF
                obtain ⟨e1, e2, e3, _, _⟩ := hg.shape
                obtain ⟨rfl, rfl, rfl⟩ : ac = e1 ∧ nc = (sX s s.size (0, false)).cs.length ∧ cc = e2 := by injection e3 with a b c; exact ⟨a, b, c⟩
                have hIs : StpIs wr (.slice ac (sX s s.size (0, false)).cs.length cc) (.slice av (sX s s.size (0, false)).rs.length cv) (sX s s.size (0, false)) := ⟨⟨g, hg⟩, hF.is⟩
                have Hg : Hid (StrsF wr (.slice ac (sX s s.size (0, false)).cs.length cc) (sX s s.size (0, false)).cs g ∧ (∀ b ∈ g, b ≠ w.heap.size) ∧ RelsF wr (.slice av (sX s s.size (0, false)).rs.length cv) (sX s s.size (0, false)).rs F ∧ (∀ b ∈ F, b ≠ w.heap.size) ∧ Own wr w.heap.size g ∧ Own wr w.heap.size F ∧ ∀ b ∈ g, b ∉ F) := ⟨hg, (fun b hb e => by have := hgO.2.1 b hb; omega), hF, (fun b hb e => by have := hFO.2.1 b hb; omega), ⟨hgO.1, (fun b hb => by have := hgO.2.1 b hb; omega), hgO.2.2⟩, ⟨hFO.1, (fun b hb => by have := hFO.2.1 b hb; omega), hFO.2.2⟩, fun b hb hb2 => by have h8 := hbO b (hgB b hb); have h9 := hFO.2.1 b hb2; omega⟩
                have hPut := specPutStep_any (sX s s.size (0, false)) _ _ wr hwf hIs
                clear HE1 HE2 HE4 HfR HCE HC2 HP HnT HmT hO hQ HCr HLr HL h1 h2 h3 h4 h5 h6 E1 E2 E4 hg hF hgO hFO hgB hlk hwf hexit
                generalize sX s s.size (0, false) = x at *
                generalize fR j = pw at *
                generalize x.cs.length = lc at *
                generalize x.rs.length = lr at *
                have u0 : wr.cell? ⟨w.heap.size + 1, 0, none⟩ = some (.int .i64 x.k) := by rw [Lib.cell_of_heap hS]; rfl
                have u1 : wr.cell? ⟨w.heap.size + 1, 1, none⟩ = some (.string x.s) := by rw [Lib.cell_of_heap hS]; rfl
                have u2 : wr.cell? ⟨w.heap.size + 1, 2, none⟩ = some (.slice ac lc cc) := by rw [Lib.cell_of_heap hS]; rfl
                have u3 : wr.cell? ⟨w.heap.size + 1, 3, none⟩ = some (.string x.q) := by rw [Lib.cell_of_heap hS]; rfl
                have u4 : wr.cell? ⟨w.heap.size + 1, 4, none⟩ = some (.slice av lr cv) := by rw [Lib.cell_of_heap hS]; rfl
                have uf : ∀ i, wr.frozen? ⟨w.heap.size + 1, i, none⟩ = false := fun i => Lib.frozen_of_heap hS i
                by_cases hz : s.size = 0
                · have hgo : gO s = false := by
                    cases h : gO s with
                    | false => rfl
                    | true => exact absurd hz (hss.2 h).1
                  have HZ : Hid (gT s = zT) := by show _ = _; rw [HG.out, if_neg (by rw [hgo]; decide)]
                  have hnil : s.toList = [] := by rw [ByteArray.toList_eq]; exact List.eq_nil_of_length_eq_zero (by simpa using hz)
                  clear hPut hIs hss hS
                  go_wp2
                  obtain ⟨c0, c1, c2, c3, c4, c5, c6, c7⟩ := five_out hbE (Nat.le_refl _) HR.out (.int .i64 0) (.string ⟨#[]⟩) (.slice none 0 0) (.string ⟨#[]⟩) (.slice none 0 0)
                  clear r0 r1 r2 r3 r4 rf HR
                  unfold five at c0 c1 c2 c3 c4 c5 c6 c7
                  generalize (World.setCell (World.setCell (World.setCell (World.setCell (World.setCell wr ⟨w.heap.size, 0, none⟩ (.int .i64 0)) ⟨w.heap.size, 1, none⟩ (.string ⟨#[]⟩)) ⟨w.heap.size, 2, none⟩ (.slice none 0 0)) ⟨w.heap.size, 3, none⟩ (.string ⟨#[]⟩)) ⟨w.heap.size, 4, none⟩ (.slice none 0 0)) = wF at c0 c1 c2 c3 c4 c5 c6 c7 ⊢
                  refine bodyPost_ret (results_ct rfl _ _ _ _ ⟨w.heap.size, 0, none⟩ rfl (load5 c0 c1 c2 c3 c4)) rfl ⟨⟨.slice none 0 0, .slice none 0 0, [], [], (by rw [HZ.out]; (try rw [hgo]); rfl), (by rw [HZ.out]; exact StpOwn.nil _ _)⟩, c5⟩
                · have hne : s.toList.isEmpty = false := by
                    rw [ByteArray.toList_eq]
                    have : s.data.toList.length ≠ 0 := by simpa using hz
                    cases h : s.data.toList with
                    | nil => rw [h] at this; simp at this
                    | cons a l => rfl
                  cases hgo : gO s with
                  | false =>
                    have HZ : Hid (gT s = zT) := by show _ = _; rw [HG.out, if_neg (by rw [hgo]; decide)]
                    have hcmp : ((putT x).toList == s.toList) = false := by
                      rw [beq_eq_false_iff_ne]
                      intro h
                      rw [ByteArray.toList_eq, ByteArray.toList_eq] at h
                      have : putT x = s := ByteArray.ext (Array.ext' h)
                      have := hss.1 ⟨hz, this⟩
                      rw [hgo] at this; cases this
                    have hcmp2 : ((putT x).toList != s.toList) = true := by simp only [bne, hcmp]; rfl
                    clear hss hS hIs
                    go_wp2_with (first | (go_at_call 15; refine Calls.mono hPut ?_; rintro r w4 ⟨rfl, hb4⟩; replace hbE : Below w.heap.size w w4 := hbE.trans (hb4.mono hbE.size); replace HR : Hid (w4.heap[w.heap.size]? = some (.cells #[.int .i64 0, .string ⟨#[]⟩, .slice none 0 0, .string ⟨#[]⟩, .slice none 0 0] 27 (0, 0))) := (hb4.block _ hRl).trans HR.out; replace r0 := cell_later hb4 r0; replace r1 := cell_later hb4 r1; replace r2 := cell_later hb4 r2; replace r3 := cell_later hb4 r3; replace r4 := cell_later hb4 r4; replace rf : ∀ i, w4.frozen? ⟨w.heap.size, i, none⟩ = false := fun i => Lib.frozen_of_heap HR.out i; clear hb4 hb Hg) | fail)
                    obtain ⟨c0, c1, c2, c3, c4, c5, c6, c7⟩ := five_out hbE (Nat.le_refl _) HR.out (.int .i64 0) (.string ⟨#[]⟩) (.slice none 0 0) (.string ⟨#[]⟩) (.slice none 0 0)
                    clear r0 r1 r2 r3 r4 rf HR
                    unfold five at c0 c1 c2 c3 c4 c5 c6 c7
                    generalize (World.setCell (World.setCell (World.setCell (World.setCell (World.setCell w4 ⟨w.heap.size, 0, none⟩ (.int .i64 0)) ⟨w.heap.size, 1, none⟩ (.string ⟨#[]⟩)) ⟨w.heap.size, 2, none⟩ (.slice none 0 0)) ⟨w.heap.size, 3, none⟩ (.string ⟨#[]⟩)) ⟨w.heap.size, 4, none⟩ (.slice none 0 0)) = wF at c0 c1 c2 c3 c4 c5 c6 c7 ⊢
                    refine bodyPost_ret (results_ct rfl _ _ _ _ ⟨w.heap.size, 0, none⟩ rfl (load5 c0 c1 c2 c3 c4)) rfl ⟨⟨.slice none 0 0, .slice none 0 0, [], [], (by rw [HZ.out]; (try rw [hgo]); rfl), (by rw [HZ.out]; exact StpOwn.nil _ _)⟩, c5⟩
                  | true =>
                    have HZ : Hid (gT s = x) := by show _ = _; rw [HG.out, if_pos hgo]
                    have hcmp : ((putT x).toList == s.toList) = true := by rw [(hss.2 hgo).2]; exact beq_self_eq_true _
                    have hcmp2 : ((putT x).toList != s.toList) = false := by simp only [bne, hcmp]; rfl
                    clear hss hS
                    go_wp2_with (first | (go_at_call 15; refine Calls.mono hPut ?_; rintro r w4 ⟨rfl, hb4⟩; replace hbE : Below w.heap.size w w4 := hbE.trans (hb4.mono hbE.size); replace HR : Hid (w4.heap[w.heap.size]? = some (.cells #[.int .i64 0, .string ⟨#[]⟩, .slice none 0 0, .string ⟨#[]⟩, .slice none 0 0] 27 (0, 0))) := (hb4.block _ hRl).trans HR.out; have Hg4 : Hid (StpOwn w4 w.heap.size (.slice ac lc cc) (.slice av lr cv) x g F) := StpOwn.below (w := wr) ⟨Hg.out.1, Hg.out.2.2.1, Hg.out.2.2.2.2.1, Hg.out.2.2.2.2.2.1, Hg.out.2.2.2.2.2.2⟩ hb4; replace r0 := cell_later hb4 r0; replace r1 := cell_later hb4 r1; replace r2 := cell_later hb4 r2; replace r3 := cell_later hb4 r3; replace r4 := cell_later hb4 r4; replace u0 := cell_later hb4 u0; replace u1 := cell_later hb4 u1; replace u2 := cell_later hb4 u2; replace u3 := cell_later hb4 u3; replace u4 := cell_later hb4 u4; replace rf : ∀ i, w4.frozen? ⟨w.heap.size, i, none⟩ = false := fun i => Lib.frozen_of_heap HR.out i; clear hb4 hb uf) | fail)
                    obtain ⟨c0, c1, c2, c3, c4, c5, c6, c7⟩ := five_out hbE (Nat.le_refl _) HR.out (.int .i64 x.k) (.string x.s) (.slice ac lc cc) (.string x.q) (.slice av lr cv)
                    clear r0 r1 r2 r3 r4 rf HR
                    unfold five at c0 c1 c2 c3 c4 c5 c6 c7
                    generalize (World.setCell (World.setCell (World.setCell (World.setCell (World.setCell w4 ⟨w.heap.size, 0, none⟩ (.int .i64 x.k)) ⟨w.heap.size, 1, none⟩ (.string x.s)) ⟨w.heap.size, 2, none⟩ (.slice ac lc cc)) ⟨w.heap.size, 3, none⟩ (.string x.q)) ⟨w.heap.size, 4, none⟩ (.slice av lr cv)) = wF at c0 c1 c2 c3 c4 c5 c6 c7 ⊢
                    have hIsF : StpOwn wF w.heap.size (.slice ac lc cc) (.slice av lr cv) x g F := ⟨Hg4.out.1.keep (Nat.le_of_eq c7.symm) (fun b hb => c6 b (Hg.out.2.1 b hb)), Hg4.out.2.1.keep (Nat.le_of_eq c7.symm) (fun b hb => c6 b (Hg.out.2.2.2.1 b hb)), Hg4.out.2.2.1.keep (fun b hb => c6 b (Hg.out.2.1 b hb)), Hg4.out.2.2.2.1.keep (fun b hb => c6 b (Hg.out.2.2.2.1 b hb)), Hg4.out.2.2.2.2⟩
                    refine bodyPost_ret (results_ct rfl _ _ _ _ ⟨w.heap.size, 0, none⟩ rfl (load5 c0 c1 c2 c3 c4)) rfl ⟨⟨.slice ac lc cc, .slice av lr cv, g, F, (by rw [HZ.out]; (try rw [hgo]); rfl), (by rw [HZ.out]; exact hIsF)⟩, c5⟩
end Go.Proofs.YtbmoimfimeiglaaGreat
namespace Go.Proofs.YtbmoimfimeiglaaGreat
open Go.RowKit Go.Deep
set_option linter.unusedVariables false
theorem ar1 {S f n : Nat} (h : f + n ≤ S) : ¬ ((S : Int) - (f : Int) < (n : Int)) := by omega
theorem ar2 {S f n : Nat} (h : f + n ≤ S) (hs : S ≤ 1048576) : wrap64 ((f : Int) + (n : Int)) = ((f + n : Nat) : Int) := by unfold wrap64; omega
theorem ar3 {S f n : Nat} (h : f + n ≤ S) (hs : S ≤ 1048576) : IntKind.i64.wrap ((f : Int) + (n : Int)) = ((f + n : Nat) : Int) := by rw [IntKind.wrap_i64]; omega
theorem ar4 {S f n : Nat} (h : ¬ f + n ≤ S) : (S : Int) - (f : Int) < (n : Int) := by omega
theorem ar5 {s : ByteArray} {f n : Nat} (hs : s.size ≤ 1048576) : (s.extract f (f + n)).size ≤ 1048576 := by rw [ByteArray.size_extract]; omega
theorem ar6 {S : Int} (h : 0 ≤ S ∧ S < 4294967296) : IntKind.i64.wrap S = S ∧ wrap64 S = S := by
  constructor
  · rw [IntKind.wrap_i64]; omega
  · unfold wrap64; omega
theorem ar7 {n : Nat} (h : n ≤ 1048576) : n ≤ maxLen := by unfold maxLen; omega
theorem ps_at (a : Nat) : ps (a, false) = (a : Int) := rfl
theorem gnV_of {s : ByteArray} {k : Nat} {q : Nat × Bool} (h : (nm s s.size k q).2.2 = false) : gnV s k q = (nm s s.size k q).1 := by unfold gnV; rw [if_neg (by rw [h]; decide)]
theorem okM_of {s : ByteArray} {a : Nat} : okM s a = (!(lB s a).2.2 && decide (lN s a ≤ s.size) && ((sumB (s.extract (lB s a).2.1 (lN s a)) : Int) == (lB s a).1) && gO (s.extract (lB s a).2.1 (lN s a))) := rfl
set_option maxHeartbeats 4000000 in
set_option maxRecDepth 100000 in
theorem specReadLog_any (s : ByteArray) (w : World) (hs : s.size ≤ 1048576) :
    Calls Tryz.prog 7 #[.string s] w fun r w' => RlOut s w r w' := by
  obtain ⟨i0, hi, hz0, hz1, hz2⟩ := info_parts infoT5
  have hE0 : StsOwn (w.alloc (.cells #[] 27)) w.heap.size (.slice (some ⟨w.heap.size, 0, none⟩) 0 0) [] [] [] := StsOwn.empty' rfl
  have bal0 : Below w.heap.size w (w.alloc (.cells #[] 27)) := (Below.refl _ _).alloc (Nat.le_refl _) _
  by_cases hbig : 100000 < s.size
  · have hbI : decide ((s.size : Int) ≤ 100000) = false := by simp; omega
    have HR : Hid (rlT s = [] ∧ rlE s = 0) := by
      show _ ∧ _
      unfold rlT rlE
      rw [if_neg (by omega), if_neg (by omega)]
      exact ⟨rfl, rfl⟩
    go_enter Tryz.func7, Tryz.ntmps7
    go_wp2
    go_loopw [4, 5] (fun y e wr => y = .slice (some ⟨w.heap.size, 0, none⟩) 0 0 ∧ e = .int .i64 0 ∧ wr = w.alloc (.cells #[] 27)) (fun _ _ _ => 0)
    case atStart => exact ⟨rfl, rfl, rfl⟩
    case round =>
      obtain ⟨rfl, rfl, rfl⟩ := hrel
      go_wp2
      go_returns
      refine ⟨⟨.slice (some ⟨w.heap.size, 0, none⟩) 0 0, [], [], ?_, ?_⟩, bal0⟩
      · rw [HR.out.2]; rfl
      · rw [HR.out.1]; exact hE0
  have hsm : s.size ≤ 100000 := by omega
  have hsI : decide ((s.size : Int) ≤ 100000) = true := by simp; omega
  clear hbig
  go_enter Tryz.func7, Tryz.ntmps7
  go_wp2
  go_loopw [4, 5] (fun y e wr => ∃ (k a : Nat) (ts : List T5) (us : List (Value × Value)) (G : List (List Nat)), e = .int .i64 a ∧ RlInv s k a ts ∧ StsOwn wr w.heap.size y ts us G ∧ Below w.heap.size w wr) (fun _ e _ => s.size - (intOf e).toNat)
  case atStart => exact ⟨_, 0, _, _, _, rfl, RlInv.start s, hE0, bal0⟩
  case round =>
    clear hE0 bal0
    obtain ⟨k, a, ts, us, G, rfl, hI, hQ, hb⟩ := hrel
    have ha := hI.at'
    have hlen := hI.len
    have hzb := hb.size
    obtain ⟨ay, cy, rfl⟩ := hQ.shape
    have HStop : Hid (okM s a = false → ∀ w', Below wr.heap.size wr w' → RlOut s w (.returned (.tuple #[.slice ay ts.length cy, .int .i64 a])) w') := fun ho w' hb' => by
      obtain ⟨h1, h2⟩ := hI.stop ho
      refine ⟨⟨.slice ay ts.length cy, us, G, ?_, ?_⟩, hb.trans (hb'.mono hzb)⟩
      · unfold rlE; rw [if_pos hsm, ← h2]
      · unfold rlT; rw [if_pos hsm, ← h1]; exact hQ.below hb'
    have hA1 : (lA s a).2.1 ≤ s.size := nm_at (s := s) (k := 4) (q := (a, false)) ha
    have hB1 := lB_at ha
    have hN1 := l10Num_any s (a, false) 4 wr ha hs (by omega)
    have hN2 := l10Num_any s (lA s a).2 4 wr hA1 hs (by omega)
    rw [ps_at] at hN1
    replace hN1 : Calls Tryz.prog 29 #[.string s, .int .i64 (a : Int), .int .i64 4] wr fun e w' => e = .returned (.tuple #[.int .i64 (gnV s 4 (a, false)), .int .i64 (ps (lA s a).2)]) ∧ w' = wr := hN1
    replace hN2 : Calls Tryz.prog 29 #[.string s, .int .i64 (ps (lA s a).2), .int .i64 4] wr fun e w' => e = .returned (.tuple #[.int .i64 (gnV s 4 (lA s a).2), .int .i64 (ps (lB s a).2)]) ∧ w' = wr := hN2
    cases ht : (lB s a).2.2
    · have hAt : (lA s a).2.2 = false := nm_torn (s := s) (e := s.size) (k := 4) ht
      rw [ps_ge ht] at hN2
      rw [gnV_of (show (nm s s.size 4 (a, false)).2.2 = false from hAt)] at hN1
      rw [gnV_of (show (nm s s.size 4 (lA s a).2).2.2 = false from ht)] at hN2
      obtain ⟨hAb1, hAb2⟩ := lA_bd ha
      obtain ⟨hBb1, hBb2⟩ := lB_bd ha
      have hOM := okM_of (s := s) (a := a)
      rw [ht] at hOM
      have hAe : (nm s s.size 4 (a, false)).1 = ((lA s a).1.toNat : Int) := by show (lA s a).1 = _; omega
      rw [hAe] at hN1
      replace hN2 : Calls Tryz.prog 29 #[.string s, .int .i64 (ps (lA s a).2), .int .i64 4] wr fun e w' => e = .returned (.tuple #[.int .i64 (lB s a).1, .int .i64 ((lB s a).2.1 : Int)]) ∧ w' = wr := hN2
      have hNx : RlInv s k a ts := hI
      have hLN : lN s a = (lB s a).2.1 + (lA s a).1.toNat := rfl
      have HNext : Hid (okM s a = true → a < lN s a ∧ ∃ k', RlInv s k' (lN s a) (ts ++ [lX s a])) := fun h => ⟨(okM_at h).1, hI.next h⟩
      have HLX : Hid (lX s a = gT (s.extract (lB s a).2.1 (lN s a))) := rfl
      generalize (lA s a).1.toNat = n at *
      generalize ps (lA s a).2 = pA at *
      generalize (lB s a).2.1 = f at *
      generalize (lB s a).1 = NB at *
      generalize lX s a = x at *
      generalize lN s a = q at *
      subst hLN
      have hneg : ¬ ((f : Int) < 0) := by omega
      have HN1 : Hid _ := hN1
      have HN2 : Hid _ := hN2
      clear hN1 hN2 hI hNx hAe hA1 hAb1 hAb2 hBb1 hBb2 hAt
      by_cases hgt : f + n ≤ s.size
      · have hcmp := ar1 hgt
        have hwa := ar2 hgt hs
        have hwi := ar3 hgt hs
        have hTz : (s.extract f (f + n)).size ≤ 1048576 := ar5 hs
        have hsb := sumB_bd (s.extract f (f + n))
        have T5' : ∀ wz : World, Calls Tryz.prog 18 #[.string (s.extract f (f + n))] wz fun e w' => e = .returned (.int .u32 (sumB (s.extract f (f + n)))) ∧ w' = wz := fun wz => specSum_any (s.extract f (f + n)) wz (ar7 hTz)
        have T6 : ∀ wz : World, Calls Tryz.prog 11 #[.string (s.extract f (f + n))] wz fun r w' => GsOut (s.extract f (f + n)) wz r w' := fun wz => specGetStep_any (s.extract f (f + n)) wz hTz
        generalize sumB (s.extract f (f + n)) = SB at *
        have HT5 : Hid _ := T5'
        have HT6 : Hid _ := T6
        clear T5' T6
        obtain ⟨hws, hwt⟩ := ar6 hsb
        cases hne : (SB == NB)
        · have hne2 : (NB != SB) = true := by
            rw [bne_iff_ne]; intro e; rw [e] at hne; simp at hne
          have hM : okM s a = false := by rw [hOM, hne]; simp
          have HS : Hid (∀ w', Below wr.heap.size wr w' → RlOut s w (.returned (.tuple #[.slice ay ts.length cy, .int .i64 a])) w') := HStop.out hM
          clear HStop HNext HLX HT6 hM
          go_wp2_with fail
          refine Calls.mono HN1.out ?_
          rintro r w1 ⟨rfl, rfl⟩
          go_wp2_with fail
          refine Calls.mono HN2.out ?_
          rintro r w1 ⟨rfl, rfl⟩
          go_wp2_with fail
          refine Calls.mono (HT5.out _) ?_
          rintro r w1 ⟨rfl, rfl⟩
          go_wp2
          go_returns
          exact HS.out _ (Below.refl _ _)
        · have hne2 : (NB != SB) = false := by
            have := eq_of_beq hne
            subst this
            simp
          have HOM : Hid (okM s a = gO (s.extract f (f + n))) := by
            show _ = _
            rw [hOM, hne, decide_eq_true hgt]; simp
          have hOx : Hid (gT (s.extract f (f + n)) = x) := HLX.out.symm
          clear hOM HLX
          go_wp2_with fail
          refine Calls.mono HN1.out ?_
          rintro r w1 ⟨rfl, rfl⟩
          go_wp2_with fail
          refine Calls.mono HN2.out ?_
          rintro r w1 ⟨rfl, rfl⟩
          go_wp2_with fail
          refine Calls.mono (HT5.out _) ?_
          rintro r w1 ⟨rfl, rfl⟩
          go_wp2_with fail
          refine Calls.mono (HT6.out _) ?_
          rintro r w3 ⟨⟨uc, ur, g, F, rfl, hO⟩, hb3⟩
          rw [hOx.out] at hO
          rw [hOx.out]
          have hz3 := hb3.size
          obtain ⟨⟨ac, cc, rfl, _, _⟩, ar, cr, rfl, _, _⟩ := hO.is.shape
          clear HT5 HT6 HN1 HN2
          cases hgo : gO (s.extract f (f + n))
          · have hM : okM s a = false := by rw [HOM.out]; exact hgo
            have HS : Hid (∀ w', Below w1.heap.size w1 w' → RlOut s w (.returned (.tuple #[.slice ay ts.length cy, .int .i64 a])) w') := HStop.out hM
            clear HStop HNext hQ
            go_wp2
            go_returns
            exact HS.out _ (bex)
          · have hM : okM s a = true := by rw [HOM.out]; exact hgo
            obtain ⟨hqa, k', hI'⟩ := HNext.out hM
            obtain ⟨hS3, hOw3⟩ := hO.stpF
            have bal : Below w3.heap.size w3 ((w3.alloc (.cells #[.int .i64 x.k, .string x.s, .slice ac x.cs.length cc, .string x.q, .slice ar x.rs.length cr] 27)).alloc (.cells #[.int .i64 x.k, .string x.s, .slice ac x.cs.length cc, .string x.q, .slice ar x.rs.length cr] 27)) := ((Below.refl _ _).alloc (Nat.le_refl _) _).alloc (by simp) _
            have bA : Below w1.heap.size w1 ((w3.alloc (.cells #[.int .i64 x.k, .string x.s, .slice ac x.cs.length cc, .string x.q, .slice ar x.rs.length cr] 27)).alloc (.cells #[.int .i64 x.k, .string x.s, .slice ac x.cs.length cc, .string x.q, .slice ar x.rs.length cr] 27)) := hb3.trans (bal.mono hz3)
            have hE4 := hQ.below bA
            have hS4 := hS3.below bal
            have hO4 := hOw3.below hS3.lt bal
            have hul := ownsRow_lt hQ.own
            have hGl := hQ.lt
            have hge : ∀ b ∈ g ++ F, w1.heap.size ≤ b := hOw3.2.1
            have hnb := alloc2_new w3 (.cells #[.int .i64 x.k, .string x.s, .slice ac x.cs.length cc, .string x.q, .slice ar x.rs.length cr] 27) (.cells #[.int .i64 x.k, .string x.s, .slice ac x.cs.length cc, .string x.q, .slice ar x.rs.length cr] 27)
            clear HStop HNext hQ hO hS3 hOw3
            go_wp2_with (at_builtin; refine wpList_append_own_at _ rfl _ _ 30 rfl w.heap.size 27 i0 _ 5 88 Tryz.underlying30 hi hz0 hz1 hz2 rfl (by decide) (.slice ay ts.length cy) ts.length (rct us ts) rfl hE4.own ⟨w3.heap.size + 1, 0, none⟩ 1 1 [.int .i64 x.k, .string x.s, .slice ac x.cs.length cc, .string x.q, .slice ar x.rs.length cr] rfl (by simp) ?c1 ?c2 ?c3 ?c4 ?c5 ?_)
            case c1 => exact World.news_of_block (cs := #[.int .i64 x.k, .string x.s, .slice ac x.cs.length cc, .string x.q, .slice ar x.rs.length cr]) (t := 27) (fr := (0, 0)) hnb
            case c2 => simp [Value.oneCell']
            case c3 => unfold maxLen; omega
            case c4 => omega
            case c5 => simp; omega
            intro v5 w5 hown5 hgr5 _ hat5
            have hsz5 := hgr5.size
            have hp := StsOwn.push (u := (.slice ac x.cs.length cc, .slice ar x.rs.length cr)) (x := x) hE4 hS4 ⟨hO4.1, fun b hb => by have := hge b hb; omega, hO4.2.2⟩ (fun b hb hb2 => by have := hge b hb2; have := hGl b hb; omega) (fun b hb hb2 => by have := hge b hb2; have := (hul b hb).2; omega) hown5 hgr5 (fun b hb5 => by
              rcases hat5 with h | h
              · left; rw [← h]; exact hb5
              · right; rw [h] at hb5; cases hb5; (first | exact Nat.le_refl _ | (simp; done) | (simp; omega)))
            have bel5 : Below w.heap.size w w5 := (hb.trans (bA.mono hzb)).grown hgr5 (by simp; omega) (fun q hq => (hul q hq).1)
            obtain ⟨a5, c5, rfl⟩ := hp.shape
            clear hown5 hgr5 hat5 hE4 hS4 hO4 hnb bA bal
            go_wp2
            exact ⟨⟨k', f + n, _, _, _, by first | rfl | (congr 1; omega), hI', hp, bel5⟩, by simp [intOf]; omega⟩
      · have hcmp := ar4 hgt
        have hM : okM s a = false := by rw [hOM, decide_eq_false hgt]; simp
        have HS : Hid (∀ w', Below wr.heap.size wr w' → RlOut s w (.returned (.tuple #[.slice ay ts.length cy, .int .i64 a])) w') := HStop.out hM
        clear HStop HNext HLX hM
        go_wp2_with fail
        refine Calls.mono HN1.out ?_
        rintro r w1 ⟨rfl, rfl⟩
        go_wp2_with fail
        refine Calls.mono HN2.out ?_
        rintro r w1 ⟨rfl, rfl⟩
        go_wp2
        go_returns
        exact HS.out _ (Below.refl _ _)
    · have hM : okM s a = false := by rw [okM_of, ht]; rfl
      have HS : Hid (∀ w', Below wr.heap.size wr w' → RlOut s w (.returned (.tuple #[.slice ay ts.length cy, .int .i64 a])) w') := HStop.out hM
      rw [ps_lt ht] at hN2
      have HN1 : Hid _ := hN1
      have HN2 : Hid _ := hN2
      clear hN1 hN2 HStop hM hQ hI
      go_wp2_with fail
      refine Calls.mono HN1.out ?_
      rintro r w1 ⟨rfl, rfl⟩
      go_wp2_with fail
      refine Calls.mono HN2.out ?_
      rintro r w1 ⟨rfl, rfl⟩
      go_wp2
      go_returns
      exact HS.out _ (Below.refl _ _)
end Go.Proofs.YtbmoimfimeiglaaGreat
