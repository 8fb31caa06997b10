/- Own text. The contracts of the helpers on questions: how much one weighs, that one is the same as another one. -/
import Derived.Test.YtmheiehhdmajfaaSelK
import Derived.Test.YtmheiehhdmajfaaAstC
import Derived.Test.YtmheiehhdmajfaaStrC
import Derived.Handy
import Derived.Deep.RegionHeld3
namespace Go.Proofs.Ytmheiehhdmajfaa
open Go.RowKit
set_option linter.unusedVariables false
/-- szSelectS at questions that are at most d deep. -/
def SzQ (D d : Nat) : Prop := ∀ (v : Value) (ps : List S8) (F : List Nat) (left : Int) (w : World), SelsIs w D d v ps F → 0 ≤ left → left ≤ 1048576 →
    Calls Try.prog 11 #[v, .int .i64 left] w fun e w' => (∃ z : Int, e = .returned (.int .i64 z) ∧ -1 ≤ z ∧ z ≤ left ∧ (0 ≤ z → z + (ps.length + wtQs ps) = left)) ∧ Below w.heap.size w w'
set_option maxHeartbeats 4000000 in
set_option maxRecDepth 100000 in
theorem szSelect_of {D d : Nat} (hS : SzQ D d) (p : S8) (ui uf uw ug um u : Value) (g : List Nat) (left : Int) (w : World) (hw : p.wf) (hL : ListsQ w D (SelsIs w D d) p ui uf uw ug um u g) (h0 : 0 ≤ left) (h1 : left ≤ 1048576) :
    Calls Try.prog 4 #[(.agg #[.bool p.d, .bool p.s, ui, uf, uw, ug, um, u]), .int .i64 left] w fun x w' => (∃ z : Int, x = .returned (.int .i64 z) ∧ -1 ≤ z ∧ z ≤ left ∧ (0 ≤ z → z + wtQ p = left)) ∧ Below w.heap.size w w' := by
  rw [wtQ_eq]
  obtain ⟨a0, c0, a1, c1, a2, c2, a3, c3, a4, c4, a5, c5, rfl, rfl, rfl, rfl, rfl, rfl, _, _, _, _, _, _, _, _, _, _, _, _⟩ := hL.shape
  obtain ⟨Fi, Ff, Fw, Fg, Fm, h, rfl, ki, kf, kw, kg, km, kn⟩ := hL
  go_enter Try.func4, Try.ntmps4
  go_wp2_with fail
  refine Calls.mono (szAstS_any D (.slice a0 p.it.length c0) p.it Fi left _ (ki.below ?hb) (by omega) (by omega)) ?_
  case hb => repeat (first | (with_reducible exact Below.refl _ _) | (with_reducible refine Below.drew ?_) | (with_reducible refine Below.alloc ?_ ?hh _; case hh => first | (simp; done) | (simp; omega) | omega) | (with_reducible refine Below.setCell ?_ ?hh _; case hh => first | (simp; done) | (simp; omega) | omega) | refine bstep (by assumption) (by first | (simp; done) | (simp; omega) | omega) ?_)
  rintro x w1 ⟨⟨z1, rfl, l1, g1, s1⟩, hb1⟩
  have hz1 := hb1.size
  try simp only [World.size_alloc] at hz1
  have c1_1 : w1.cell? ⟨w.heap.size, 3, none⟩ = some (.slice a1 p.fr.length c1) := cell_later hb1 (by go_simp)
  have c2_1 : w1.cell? ⟨w.heap.size, 4, none⟩ = some (.slice a2 p.wh.length c2) := cell_later hb1 (by go_simp)
  have c3_1 : w1.cell? ⟨w.heap.size, 5, none⟩ = some (.slice a3 p.gr.length c3) := cell_later hb1 (by go_simp)
  have c4_1 : w1.cell? ⟨w.heap.size, 6, none⟩ = some (.slice a4 p.su.length c4) := cell_later hb1 (by go_simp)
  have c5_1 : w1.cell? ⟨w.heap.size, 7, none⟩ = some (.slice a5 p.ks.length c5) := cell_later hb1 (by go_simp)
  by_cases hn1 : z1 < 0
  · go_wp2_with fail
    go_returns
    exact ⟨⟨-1, rfl, by omega, by omega, by omega⟩, by repeat (first | (with_reducible exact Below.refl _ _) | (with_reducible refine Below.drew ?_) | (with_reducible refine Below.alloc ?_ ?hh _; case hh => first | (simp; done) | (simp; omega) | omega) | (with_reducible refine Below.setCell ?_ ?hh _; case hh => first | (simp; done) | (simp; omega) | omega) | refine bstep (by assumption) (by first | (simp; done) | (simp; omega) | omega) ?_)⟩
  have e1 := s1 (by omega)
  go_wp2_with fail
  refine Calls.mono (szStringS_any (.slice a1 p.fr.length c1) p.fr Ff z1 _ (kf.below ?hb) hw (by omega) (by omega)) ?_
  case hb => repeat (first | (with_reducible exact Below.refl _ _) | (with_reducible refine Below.drew ?_) | (with_reducible refine Below.alloc ?_ ?hh _; case hh => first | (simp; done) | (simp; omega) | omega) | (with_reducible refine Below.setCell ?_ ?hh _; case hh => first | (simp; done) | (simp; omega) | omega) | refine bstep (by assumption) (by first | (simp; done) | (simp; omega) | omega) ?_)
  rintro x w2 ⟨⟨z2, rfl, l2, g2, s2⟩, hb2⟩
  have hz2 := hb2.size
  try simp only [World.size_alloc] at hz2
  have c2_2 : w2.cell? ⟨w.heap.size, 4, none⟩ = some (.slice a2 p.wh.length c2) := cell_later hb2 (by go_simp)
  have c3_2 : w2.cell? ⟨w.heap.size, 5, none⟩ = some (.slice a3 p.gr.length c3) := cell_later hb2 (by go_simp)
  have c4_2 : w2.cell? ⟨w.heap.size, 6, none⟩ = some (.slice a4 p.su.length c4) := cell_later hb2 (by go_simp)
  have c5_2 : w2.cell? ⟨w.heap.size, 7, none⟩ = some (.slice a5 p.ks.length c5) := cell_later hb2 (by go_simp)
  by_cases hn2 : z2 < 0
  · go_wp2_with fail
    go_returns
    exact ⟨⟨-1, rfl, by omega, by omega, by omega⟩, by repeat (first | (with_reducible exact Below.refl _ _) | (with_reducible refine Below.drew ?_) | (with_reducible refine Below.alloc ?_ ?hh _; case hh => first | (simp; done) | (simp; omega) | omega) | (with_reducible refine Below.setCell ?_ ?hh _; case hh => first | (simp; done) | (simp; omega) | omega) | refine bstep (by assumption) (by first | (simp; done) | (simp; omega) | omega) ?_)⟩
  have e2 := s2 (by omega)
  clear c2_1
  clear c3_1
  clear c4_1
  clear c5_1
  go_wp2_with fail
  refine Calls.mono (szAstS_any D (.slice a2 p.wh.length c2) p.wh Fw z2 _ (kw.below ?hb) (by omega) (by omega)) ?_
  case hb => repeat (first | (with_reducible exact Below.refl _ _) | (with_reducible refine Below.drew ?_) | (with_reducible refine Below.alloc ?_ ?hh _; case hh => first | (simp; done) | (simp; omega) | omega) | (with_reducible refine Below.setCell ?_ ?hh _; case hh => first | (simp; done) | (simp; omega) | omega) | refine bstep (by assumption) (by first | (simp; done) | (simp; omega) | omega) ?_)
  rintro x w3 ⟨⟨z3, rfl, l3, g3, s3⟩, hb3⟩
  have hz3 := hb3.size
  try simp only [World.size_alloc] at hz3
  have c3_3 : w3.cell? ⟨w.heap.size, 5, none⟩ = some (.slice a3 p.gr.length c3) := cell_later hb3 (by go_simp)
  have c4_3 : w3.cell? ⟨w.heap.size, 6, none⟩ = some (.slice a4 p.su.length c4) := cell_later hb3 (by go_simp)
  have c5_3 : w3.cell? ⟨w.heap.size, 7, none⟩ = some (.slice a5 p.ks.length c5) := cell_later hb3 (by go_simp)
  by_cases hn3 : z3 < 0
  · go_wp2_with fail
    go_returns
    exact ⟨⟨-1, rfl, by omega, by omega, by omega⟩, by repeat (first | (with_reducible exact Below.refl _ _) | (with_reducible refine Below.drew ?_) | (with_reducible refine Below.alloc ?_ ?hh _; case hh => first | (simp; done) | (simp; omega) | omega) | (with_reducible refine Below.setCell ?_ ?hh _; case hh => first | (simp; done) | (simp; omega) | omega) | refine bstep (by assumption) (by first | (simp; done) | (simp; omega) | omega) ?_)⟩
  have e3 := s3 (by omega)
  clear c3_2
  clear c4_2
  clear c5_2
  go_wp2_with fail
  refine Calls.mono (szAstS_any D (.slice a3 p.gr.length c3) p.gr Fg z3 _ (kg.below ?hb) (by omega) (by omega)) ?_
  case hb => repeat (first | (with_reducible exact Below.refl _ _) | (with_reducible refine Below.drew ?_) | (with_reducible refine Below.alloc ?_ ?hh _; case hh => first | (simp; done) | (simp; omega) | omega) | (with_reducible refine Below.setCell ?_ ?hh _; case hh => first | (simp; done) | (simp; omega) | omega) | refine bstep (by assumption) (by first | (simp; done) | (simp; omega) | omega) ?_)
  rintro x w4 ⟨⟨z4, rfl, l4, g4, s4⟩, hb4⟩
  have hz4 := hb4.size
  try simp only [World.size_alloc] at hz4
  have c4_4 : w4.cell? ⟨w.heap.size, 6, none⟩ = some (.slice a4 p.su.length c4) := cell_later hb4 (by go_simp)
  have c5_4 : w4.cell? ⟨w.heap.size, 7, none⟩ = some (.slice a5 p.ks.length c5) := cell_later hb4 (by go_simp)
  by_cases hn4 : z4 < 0
  · go_wp2_with fail
    go_returns
    exact ⟨⟨-1, rfl, by omega, by omega, by omega⟩, by repeat (first | (with_reducible exact Below.refl _ _) | (with_reducible refine Below.drew ?_) | (with_reducible refine Below.alloc ?_ ?hh _; case hh => first | (simp; done) | (simp; omega) | omega) | (with_reducible refine Below.setCell ?_ ?hh _; case hh => first | (simp; done) | (simp; omega) | omega) | refine bstep (by assumption) (by first | (simp; done) | (simp; omega) | omega) ?_)⟩
  have e4 := s4 (by omega)
  clear c4_3
  clear c5_3
  go_wp2_with fail
  refine Calls.mono (szAstS_any D (.slice a4 p.su.length c4) p.su Fm z4 _ (km.below ?hb) (by omega) (by omega)) ?_
  case hb => repeat (first | (with_reducible exact Below.refl _ _) | (with_reducible refine Below.drew ?_) | (with_reducible refine Below.alloc ?_ ?hh _; case hh => first | (simp; done) | (simp; omega) | omega) | (with_reducible refine Below.setCell ?_ ?hh _; case hh => first | (simp; done) | (simp; omega) | omega) | refine bstep (by assumption) (by first | (simp; done) | (simp; omega) | omega) ?_)
  rintro x w5 ⟨⟨z5, rfl, l5, g5, s5⟩, hb5⟩
  have hz5 := hb5.size
  try simp only [World.size_alloc] at hz5
  have c5_5 : w5.cell? ⟨w.heap.size, 7, none⟩ = some (.slice a5 p.ks.length c5) := cell_later hb5 (by go_simp)
  by_cases hn5 : z5 < 0
  · go_wp2_with fail
    go_returns
    exact ⟨⟨-1, rfl, by omega, by omega, by omega⟩, by repeat (first | (with_reducible exact Below.refl _ _) | (with_reducible refine Below.drew ?_) | (with_reducible refine Below.alloc ?_ ?hh _; case hh => first | (simp; done) | (simp; omega) | omega) | (with_reducible refine Below.setCell ?_ ?hh _; case hh => first | (simp; done) | (simp; omega) | omega) | refine bstep (by assumption) (by first | (simp; done) | (simp; omega) | omega) ?_)⟩
  have e5 := s5 (by omega)
  clear c5_4
  go_wp2_with fail
  refine Calls.mono (hS (.slice a5 p.ks.length c5) p.ks h z5 _ (kn.below ?hb) (by omega) (by omega)) ?_
  case hb => repeat (first | (with_reducible exact Below.refl _ _) | (with_reducible refine Below.drew ?_) | (with_reducible refine Below.alloc ?_ ?hh _; case hh => first | (simp; done) | (simp; omega) | omega) | (with_reducible refine Below.setCell ?_ ?hh _; case hh => first | (simp; done) | (simp; omega) | omega) | refine bstep (by assumption) (by first | (simp; done) | (simp; omega) | omega) ?_)
  rintro x w6 ⟨⟨z6, rfl, l6, g6, s6⟩, hb6⟩
  have hz6 := hb6.size
  try simp only [World.size_alloc] at hz6
  by_cases hn6 : z6 < 0
  · go_wp2_with fail
    go_returns
    exact ⟨⟨-1, rfl, by omega, by omega, by omega⟩, by repeat (first | (with_reducible exact Below.refl _ _) | (with_reducible refine Below.drew ?_) | (with_reducible refine Below.alloc ?_ ?hh _; case hh => first | (simp; done) | (simp; omega) | omega) | (with_reducible refine Below.setCell ?_ ?hh _; case hh => first | (simp; done) | (simp; omega) | omega) | refine bstep (by assumption) (by first | (simp; done) | (simp; omega) | omega) ?_)⟩
  have e6 := s6 (by omega)
  go_wp2_with fail
  go_returns
  exact ⟨⟨z6, rfl, by omega, by omega, by omega⟩, by repeat (first | (with_reducible exact Below.refl _ _) | (with_reducible refine Below.drew ?_) | (with_reducible refine Below.alloc ?_ ?hh _; case hh => first | (simp; done) | (simp; omega) | omega) | (with_reducible refine Below.setCell ?_ ?hh _; case hh => first | (simp; done) | (simp; omega) | omega) | refine bstep (by assumption) (by first | (simp; done) | (simp; omega) | omega) ?_)⟩
set_option maxHeartbeats 4000000 in
set_option maxRecDepth 100000 in
theorem szSelectS_step {D d : Nat} (hS : SzQ D d) : SzQ D (d + 1) := by
  intro v ps F left w hr h0 h1
  obtain ⟨a, c, b, o, G, rfl, hl, hc, hG, _, ha⟩ := hr.pick
  unfold maxLen at hc
  by_cases hbig : left - ps.length < 0
  · go_enter Try.func11, Try.ntmps11
    go_wp2
    go_returns
    exact ⟨⟨-1, rfl, by omega, by omega, by omega⟩, by go_grown⟩
  go_enter Try.func11, Try.ntmps11
  go_wp2
  go_loopw [1, 5] (fun l i wr => ∃ k : Nat, k ≤ ps.length ∧ i = .int .i64 k ∧ l = .int .i64 (left - ps.length - wtQs (ps.take k)) ∧ 0 ≤ left - ps.length - wtQs (ps.take k) ∧ Below w.heap.size w wr) (fun _ i _ => ps.length - (intOf i).toNat)
  case atStart => exact ⟨0, Nat.zero_le _, rfl, by simp [wtQs], by simp [wtQs]; omega, by go_grown⟩
  case round =>
    obtain ⟨k, hk, rfl, rfl, hp, hb⟩ := hrel
    by_cases hlt : k < ps.length
    · have hzb := hb.size
      obtain ⟨rfl, hblt, _, hL⟩ := ha k hlt
      obtain ⟨x, g, ui, uf, uw, ug, um, u, hx, hg, hxw, ⟨c0, c1, c2, c3, c4, c5, c6, c7⟩, hLx, hbr⟩ := hL.at hG hblt hb hlt
      have hT : Hid (wtQs (ps.take (k + 1)) = wtQs (ps.take k) + wtQ x) := wtQs_take hx
      have hp1 : left - ps.length - wtQs (ps.take k) ≤ 1048576 := by omega
      clear ha hL hx
      go_wp2_with (go_at_call 4; refine (szSelect_of hS _ _ _ _ _ _ _ _ _ _ hxw hLx hp hp1).mono ?_; rintro e w1 ⟨⟨z1, rfl, l1, g1, s1⟩, hb1⟩)
      · go_returns
        exact ⟨⟨-1, rfl, by omega, by omega, by omega⟩, hb.trans (hb1.mono hb.size)⟩
      · have h9 : 0 ≤ z1 := by assumption
        have e1 := s1 h9
        have hT := hT.out
        refine ⟨⟨k + 1, hlt, by simp, by congr 1; omega, by omega, hb.trans (hb1.mono hb.size)⟩, by simp [intOf]; omega⟩
    · go_wp2
      go_returns
      have hkk : k = ps.length := by omega
      subst hkk
      refine ⟨⟨_, rfl, by omega, by omega, fun _ => ?_⟩, hb⟩
      rw [List.take_length]; omega
theorem szSelectS_any (D : Nat) : ∀ d, SzQ D d
  | 0 => fun _ _ _ _ _ h => h.elim
  | d + 1 => szSelectS_step (szSelectS_any D d)
/-- eqSelectS at one list of questions twice, at most d deep. -/
def EqQ (D d : Nat) : Prop := ∀ (v u : Value) (ps : List S8) (F F' : List Nat) (w : World), SelsIs w D d v ps F → SelsIs w D d u ps F' →
    Calls Try.prog 21 #[v, u] w fun e w' => e = .returned (.bool true) ∧ Below w.heap.size w w'
set_option maxHeartbeats 4000000 in
set_option maxRecDepth 100000 in
theorem eqSelect_of {D d : Nat} (hS : EqQ D d) (p : S8) (ui uf uw ug um u ui' uf' uw' ug' um' u' : Value) (g g' : List Nat) (w : World) (hL : ListsQ w D (SelsIs w D d) p ui uf uw ug um u g) (hM : ListsQ w D (SelsIs w D d) p ui' uf' uw' ug' um' u' g') :
    Calls Try.prog 8 #[(.agg #[.bool p.d, .bool p.s, ui, uf, uw, ug, um, u]), (.agg #[.bool p.d, .bool p.s, ui', uf', uw', ug', um', u'])] w fun x w' => x = .returned (.bool true) ∧ Below w.heap.size w w' := by
  obtain ⟨a0, c0, a1, c1, a2, c2, a3, c3, a4, c4, a5, c5, rfl, rfl, rfl, rfl, rfl, rfl, _, _, _, _, _, _, _, _, _, _, _, _⟩ := hL.shape
  obtain ⟨a0', c0', a1', c1', a2', c2', a3', c3', a4', c4', a5', c5', rfl, rfl, rfl, rfl, rfl, rfl, _, _, _, _, _, _, _, _, _, _, _, _⟩ := hM.shape
  obtain ⟨Fi, Ff, Fw, Fg, Fm, h, rfl, ki, kf, kw, kg, km, kn⟩ := hL
  obtain ⟨Fi', Ff', Fw', Fg', Fm', h', rfl, ki', kf', kw', kg', km', kn'⟩ := hM
  go_enter Try.func8, Try.ntmps8
  go_wp2_with fail
  refine Calls.mono (eqAstS_any D (.slice a0 p.it.length c0) (.slice a0' p.it.length c0') p.it Fi Fi' _ (ki.below ?hb) (ki'.below ?hb2)) ?_
  case hb => repeat (first | (with_reducible exact Below.refl _ _) | (with_reducible refine Below.drew ?_) | (with_reducible refine Below.alloc ?_ ?hh _; case hh => first | (simp; done) | (simp; omega) | omega) | (with_reducible refine Below.setCell ?_ ?hh _; case hh => first | (simp; done) | (simp; omega) | omega) | refine bstep (by assumption) (by first | (simp; done) | (simp; omega) | omega) ?_)
  case hb2 => repeat (first | (with_reducible exact Below.refl _ _) | (with_reducible refine Below.drew ?_) | (with_reducible refine Below.alloc ?_ ?hh _; case hh => first | (simp; done) | (simp; omega) | omega) | (with_reducible refine Below.setCell ?_ ?hh _; case hh => first | (simp; done) | (simp; omega) | omega) | refine bstep (by assumption) (by first | (simp; done) | (simp; omega) | omega) ?_)
  rintro x w1 ⟨rfl, hb1⟩
  have hz1 := hb1.size
  try simp only [World.size_alloc] at hz1
  have c1_1 : w1.cell? ⟨w.heap.size, 3, none⟩ = some (.slice a1 p.fr.length c1) := cell_later hb1 (by go_simp)
  have d1_1 : w1.cell? ⟨w.heap.size + 1, 3, none⟩ = some (.slice a1' p.fr.length c1') := cell_later hb1 (by go_simp)
  have c2_1 : w1.cell? ⟨w.heap.size, 4, none⟩ = some (.slice a2 p.wh.length c2) := cell_later hb1 (by go_simp)
  have d2_1 : w1.cell? ⟨w.heap.size + 1, 4, none⟩ = some (.slice a2' p.wh.length c2') := cell_later hb1 (by go_simp)
  have c3_1 : w1.cell? ⟨w.heap.size, 5, none⟩ = some (.slice a3 p.gr.length c3) := cell_later hb1 (by go_simp)
  have d3_1 : w1.cell? ⟨w.heap.size + 1, 5, none⟩ = some (.slice a3' p.gr.length c3') := cell_later hb1 (by go_simp)
  have c4_1 : w1.cell? ⟨w.heap.size, 6, none⟩ = some (.slice a4 p.su.length c4) := cell_later hb1 (by go_simp)
  have d4_1 : w1.cell? ⟨w.heap.size + 1, 6, none⟩ = some (.slice a4' p.su.length c4') := cell_later hb1 (by go_simp)
  have c5_1 : w1.cell? ⟨w.heap.size, 7, none⟩ = some (.slice a5 p.ks.length c5) := cell_later hb1 (by go_simp)
  have d5_1 : w1.cell? ⟨w.heap.size + 1, 7, none⟩ = some (.slice a5' p.ks.length c5') := cell_later hb1 (by go_simp)
  go_wp2_with fail
  refine Calls.mono (eqStringS_same (.slice a1 p.fr.length c1) (.slice a1' p.fr.length c1') p.fr Ff Ff' _ (kf.below ?hb) (kf'.below ?hb2)) ?_
  case hb => repeat (first | (with_reducible exact Below.refl _ _) | (with_reducible refine Below.drew ?_) | (with_reducible refine Below.alloc ?_ ?hh _; case hh => first | (simp; done) | (simp; omega) | omega) | (with_reducible refine Below.setCell ?_ ?hh _; case hh => first | (simp; done) | (simp; omega) | omega) | refine bstep (by assumption) (by first | (simp; done) | (simp; omega) | omega) ?_)
  case hb2 => repeat (first | (with_reducible exact Below.refl _ _) | (with_reducible refine Below.drew ?_) | (with_reducible refine Below.alloc ?_ ?hh _; case hh => first | (simp; done) | (simp; omega) | omega) | (with_reducible refine Below.setCell ?_ ?hh _; case hh => first | (simp; done) | (simp; omega) | omega) | refine bstep (by assumption) (by first | (simp; done) | (simp; omega) | omega) ?_)
  rintro x w2 ⟨rfl, hb2⟩
  have hz2 := hb2.size
  try simp only [World.size_alloc] at hz2
  have c2_2 : w2.cell? ⟨w.heap.size, 4, none⟩ = some (.slice a2 p.wh.length c2) := cell_later hb2 (by go_simp)
  have d2_2 : w2.cell? ⟨w.heap.size + 1, 4, none⟩ = some (.slice a2' p.wh.length c2') := cell_later hb2 (by go_simp)
  have c3_2 : w2.cell? ⟨w.heap.size, 5, none⟩ = some (.slice a3 p.gr.length c3) := cell_later hb2 (by go_simp)
  have d3_2 : w2.cell? ⟨w.heap.size + 1, 5, none⟩ = some (.slice a3' p.gr.length c3') := cell_later hb2 (by go_simp)
  have c4_2 : w2.cell? ⟨w.heap.size, 6, none⟩ = some (.slice a4 p.su.length c4) := cell_later hb2 (by go_simp)
  have d4_2 : w2.cell? ⟨w.heap.size + 1, 6, none⟩ = some (.slice a4' p.su.length c4') := cell_later hb2 (by go_simp)
  have c5_2 : w2.cell? ⟨w.heap.size, 7, none⟩ = some (.slice a5 p.ks.length c5) := cell_later hb2 (by go_simp)
  have d5_2 : w2.cell? ⟨w.heap.size + 1, 7, none⟩ = some (.slice a5' p.ks.length c5') := cell_later hb2 (by go_simp)
  clear c2_1 d2_1
  clear c3_1 d3_1
  clear c4_1 d4_1
  clear c5_1 d5_1
  go_wp2_with fail
  refine Calls.mono (eqAstS_any D (.slice a2 p.wh.length c2) (.slice a2' p.wh.length c2') p.wh Fw Fw' _ (kw.below ?hb) (kw'.below ?hb2)) ?_
  case hb => repeat (first | (with_reducible exact Below.refl _ _) | (with_reducible refine Below.drew ?_) | (with_reducible refine Below.alloc ?_ ?hh _; case hh => first | (simp; done) | (simp; omega) | omega) | (with_reducible refine Below.setCell ?_ ?hh _; case hh => first | (simp; done) | (simp; omega) | omega) | refine bstep (by assumption) (by first | (simp; done) | (simp; omega) | omega) ?_)
  case hb2 => repeat (first | (with_reducible exact Below.refl _ _) | (with_reducible refine Below.drew ?_) | (with_reducible refine Below.alloc ?_ ?hh _; case hh => first | (simp; done) | (simp; omega) | omega) | (with_reducible refine Below.setCell ?_ ?hh _; case hh => first | (simp; done) | (simp; omega) | omega) | refine bstep (by assumption) (by first | (simp; done) | (simp; omega) | omega) ?_)
  rintro x w3 ⟨rfl, hb3⟩
  have hz3 := hb3.size
  try simp only [World.size_alloc] at hz3
  have c3_3 : w3.cell? ⟨w.heap.size, 5, none⟩ = some (.slice a3 p.gr.length c3) := cell_later hb3 (by go_simp)
  have d3_3 : w3.cell? ⟨w.heap.size + 1, 5, none⟩ = some (.slice a3' p.gr.length c3') := cell_later hb3 (by go_simp)
  have c4_3 : w3.cell? ⟨w.heap.size, 6, none⟩ = some (.slice a4 p.su.length c4) := cell_later hb3 (by go_simp)
  have d4_3 : w3.cell? ⟨w.heap.size + 1, 6, none⟩ = some (.slice a4' p.su.length c4') := cell_later hb3 (by go_simp)
  have c5_3 : w3.cell? ⟨w.heap.size, 7, none⟩ = some (.slice a5 p.ks.length c5) := cell_later hb3 (by go_simp)
  have d5_3 : w3.cell? ⟨w.heap.size + 1, 7, none⟩ = some (.slice a5' p.ks.length c5') := cell_later hb3 (by go_simp)
  clear c3_2 d3_2
  clear c4_2 d4_2
  clear c5_2 d5_2
  go_wp2_with fail
  refine Calls.mono (eqAstS_any D (.slice a3 p.gr.length c3) (.slice a3' p.gr.length c3') p.gr Fg Fg' _ (kg.below ?hb) (kg'.below ?hb2)) ?_
  case hb => repeat (first | (with_reducible exact Below.refl _ _) | (with_reducible refine Below.drew ?_) | (with_reducible refine Below.alloc ?_ ?hh _; case hh => first | (simp; done) | (simp; omega) | omega) | (with_reducible refine Below.setCell ?_ ?hh _; case hh => first | (simp; done) | (simp; omega) | omega) | refine bstep (by assumption) (by first | (simp; done) | (simp; omega) | omega) ?_)
  case hb2 => repeat (first | (with_reducible exact Below.refl _ _) | (with_reducible refine Below.drew ?_) | (with_reducible refine Below.alloc ?_ ?hh _; case hh => first | (simp; done) | (simp; omega) | omega) | (with_reducible refine Below.setCell ?_ ?hh _; case hh => first | (simp; done) | (simp; omega) | omega) | refine bstep (by assumption) (by first | (simp; done) | (simp; omega) | omega) ?_)
  rintro x w4 ⟨rfl, hb4⟩
  have hz4 := hb4.size
  try simp only [World.size_alloc] at hz4
  have c4_4 : w4.cell? ⟨w.heap.size, 6, none⟩ = some (.slice a4 p.su.length c4) := cell_later hb4 (by go_simp)
  have d4_4 : w4.cell? ⟨w.heap.size + 1, 6, none⟩ = some (.slice a4' p.su.length c4') := cell_later hb4 (by go_simp)
  have c5_4 : w4.cell? ⟨w.heap.size, 7, none⟩ = some (.slice a5 p.ks.length c5) := cell_later hb4 (by go_simp)
  have d5_4 : w4.cell? ⟨w.heap.size + 1, 7, none⟩ = some (.slice a5' p.ks.length c5') := cell_later hb4 (by go_simp)
  clear c4_3 d4_3
  clear c5_3 d5_3
  go_wp2_with fail
  refine Calls.mono (eqAstS_any D (.slice a4 p.su.length c4) (.slice a4' p.su.length c4') p.su Fm Fm' _ (km.below ?hb) (km'.below ?hb2)) ?_
  case hb => repeat (first | (with_reducible exact Below.refl _ _) | (with_reducible refine Below.drew ?_) | (with_reducible refine Below.alloc ?_ ?hh _; case hh => first | (simp; done) | (simp; omega) | omega) | (with_reducible refine Below.setCell ?_ ?hh _; case hh => first | (simp; done) | (simp; omega) | omega) | refine bstep (by assumption) (by first | (simp; done) | (simp; omega) | omega) ?_)
  case hb2 => repeat (first | (with_reducible exact Below.refl _ _) | (with_reducible refine Below.drew ?_) | (with_reducible refine Below.alloc ?_ ?hh _; case hh => first | (simp; done) | (simp; omega) | omega) | (with_reducible refine Below.setCell ?_ ?hh _; case hh => first | (simp; done) | (simp; omega) | omega) | refine bstep (by assumption) (by first | (simp; done) | (simp; omega) | omega) ?_)
  rintro x w5 ⟨rfl, hb5⟩
  have hz5 := hb5.size
  try simp only [World.size_alloc] at hz5
  have c5_5 : w5.cell? ⟨w.heap.size, 7, none⟩ = some (.slice a5 p.ks.length c5) := cell_later hb5 (by go_simp)
  have d5_5 : w5.cell? ⟨w.heap.size + 1, 7, none⟩ = some (.slice a5' p.ks.length c5') := cell_later hb5 (by go_simp)
  clear c5_4 d5_4
  go_wp2_with fail
  refine Calls.mono (hS (.slice a5 p.ks.length c5) (.slice a5' p.ks.length c5') p.ks h h' _ (kn.below ?hb) (kn'.below ?hb2)) ?_
  case hb => repeat (first | (with_reducible exact Below.refl _ _) | (with_reducible refine Below.drew ?_) | (with_reducible refine Below.alloc ?_ ?hh _; case hh => first | (simp; done) | (simp; omega) | omega) | (with_reducible refine Below.setCell ?_ ?hh _; case hh => first | (simp; done) | (simp; omega) | omega) | refine bstep (by assumption) (by first | (simp; done) | (simp; omega) | omega) ?_)
  case hb2 => repeat (first | (with_reducible exact Below.refl _ _) | (with_reducible refine Below.drew ?_) | (with_reducible refine Below.alloc ?_ ?hh _; case hh => first | (simp; done) | (simp; omega) | omega) | (with_reducible refine Below.setCell ?_ ?hh _; case hh => first | (simp; done) | (simp; omega) | omega) | refine bstep (by assumption) (by first | (simp; done) | (simp; omega) | omega) ?_)
  rintro x w6 ⟨rfl, hb6⟩
  have hz6 := hb6.size
  try simp only [World.size_alloc] at hz6
  go_wp2_with fail
  go_returns
  exact ⟨rfl, by repeat (first | (with_reducible exact Below.refl _ _) | (with_reducible refine Below.drew ?_) | (with_reducible refine Below.alloc ?_ ?hh _; case hh => first | (simp; done) | (simp; omega) | omega) | (with_reducible refine Below.setCell ?_ ?hh _; case hh => first | (simp; done) | (simp; omega) | omega) | refine bstep (by assumption) (by first | (simp; done) | (simp; omega) | omega) ?_)⟩
set_option maxHeartbeats 4000000 in
set_option maxRecDepth 100000 in
theorem eqSelectS_step {D d : Nat} (hS : EqQ D d) : EqQ D (d + 1) := by
  intro v u ps F F' w hr hu
  obtain ⟨a, c, b, o, G, rfl, hl, hc, hG, _, ha⟩ := hr.pick
  obtain ⟨a', c', b', o', G', rfl, hl', hc', hG', _, ha'⟩ := hu.pick
  unfold maxLen at hc hc'
  clear hr hu
  go_enter Try.func21, Try.ntmps21
  go_wp2
  go_loopw [5] (fun i wr => ∃ k : Nat, k ≤ ps.length ∧ i = .int .i64 k ∧ Below w.heap.size w wr) (fun i _ => ps.length - (intOf i).toNat)
  case atStart => exact ⟨0, Nat.zero_le _, rfl, by go_grown⟩
  case round =>
    obtain ⟨k, hk, rfl, hb⟩ := hrel
    by_cases hlt : k < ps.length
    · have hzb := hb.size
      obtain ⟨rfl, hblt, _, hL⟩ := ha k hlt
      obtain ⟨rfl, hblt', _, hL'⟩ := ha' k hlt
      obtain ⟨x, g, ui, uf, uw, ug, um, u, hx, _, _, ⟨c0, c1, c2, c3, c4, c5, c6, c7⟩, hLx, hbr⟩ := hL.at hG hblt hb hlt
      obtain ⟨x', g', ui', uf', uw', ug', um', u', hx', _, _, ⟨d0, d1, d2, d3, d4, d5, d6, d7⟩, hLx', hbr'⟩ := hL'.at hG' hblt' hb hlt
      obtain rfl : x = x' := by rw [hx] at hx'; exact Option.some.inj hx'
      clear ha ha' hL hL' hx hx'
      go_wp2_with fail
      go_region_with (first | (go_at_call 8; refine (eqSelect_of hS x ui uf uw ug um u ui' uf' uw' ug' um' u' _ _ _ (hLx.below (by repeat (first | (with_reducible exact Below.refl _ _) | (with_reducible refine Below.drew ?_) | (with_reducible refine Below.alloc ?_ ?hh _; case hh => first | (simp; done) | (simp; omega) | omega) | (with_reducible refine Below.setCell ?_ ?hh _; case hh => first | (simp; done) | (simp; omega) | omega) | refine bstep (by assumption) (by first | (simp; done) | (simp; omega) | omega) ?_))) (hLx'.below (by repeat (first | (with_reducible exact Below.refl _ _) | (with_reducible refine Below.drew ?_) | (with_reducible refine Below.alloc ?_ ?hh _; case hh => first | (simp; done) | (simp; omega) | omega) | (with_reducible refine Below.setCell ?_ ?hh _; case hh => first | (simp; done) | (simp; omega) | omega) | refine bstep (by assumption) (by first | (simp; done) | (simp; omega) | omega) ?_)))).mono ?_; rintro e w1 ⟨rfl, hb1⟩))
      all_goals (go_wp2; exact ⟨⟨k + 1, hlt, by simp, by repeat (first | (with_reducible exact Below.refl _ _) | (with_reducible refine Below.drew ?_) | (with_reducible refine Below.alloc ?_ ?hh _; case hh => first | (simp; done) | (simp; omega) | omega) | (with_reducible refine Below.setCell ?_ ?hh _; case hh => first | (simp; done) | (simp; omega) | omega) | refine bstep (by assumption) (by first | (simp; done) | (simp; omega) | omega) ?_)⟩, by simp [intOf]; omega⟩)
    · go_wp2
      go_returns
      exact ⟨rfl, hb⟩
theorem eqSelectS_any (D : Nat) : ∀ d, EqQ D d
  | 0 => fun _ _ _ _ _ _ h => h.elim
  | d + 1 => eqSelectS_step (eqSelectS_any D d)
end Go.Proofs.Ytmheiehhdmajfaa
