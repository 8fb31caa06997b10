/- Own text. The contract of impl.SameQuery. -/
import Derived.Test.YtmheiehhdmajfaaQsT
import Derived.Test.YtmheiehhdmajfaaBox8
import Derived.Handy
namespace Go.Proofs.Ytmheiehhdmajfaa
open Go.RowKit
set_option linter.unusedVariables false
set_option maxHeartbeats 4000000 in
set_option maxRecDepth 100000 in
theorem implSameQuery_any {D d N : Nat} (p q : S8) (ui uf uw ug um u ui' uf' uw' ug' um' u' : Value) (g g' : List Nat) (w : World) (hL : ListsQ w D (SelsIs w D d) p ui uf uw ug um u g) (hM : ListsQ w D (SelsIs w D d) q ui' uf' uw' ug' um' u' g') (ho : Own w N g) (hn : wtQ p ≤ 1048576) :
    Calls Try.prog 7 #[(.agg #[.bool p.d, .bool p.s, ui, uf, uw, ug, um, u]), (.agg #[.bool q.d, .bool q.s, ui', uf', uw', ug', um', u'])] w fun x w' => x = .returned (.bool (sameQD D d p q)) ∧ Below w.heap.size w w' := by
  obtain ⟨a0, c0, a1, c1, a2, c2, a3, c3, a4, c4, a5, c5, rfl, rfl, rfl, rfl, rfl, rfl, _, _, _, _, _, _, _, _, _, _, _, _⟩ := hL.shape
  obtain ⟨a0', c0', a1', c1', a2', c2', a3', c3', a4', c4', a5', c5', rfl, rfl, rfl, rfl, rfl, rfl, _, _, _, _, _, _, _, _, _, _, _, _⟩ := hM.shape
  go_enter Try.func7, Try.ntmps7
  go_wp2_with fail
  have hbx : Below w.heap.size w ((w.alloc (.cells #[.bool p.d, .bool p.s, (.slice a0 p.it.length c0), (.slice a1 p.fr.length c1), (.slice a2 p.wh.length c2), (.slice a3 p.gr.length c3), (.slice a4 p.su.length c4), (.slice a5 p.ks.length c5)] 32)).alloc (.cells #[.bool q.d, .bool q.s, (.slice a0' q.it.length c0'), (.slice a1' q.fr.length c1'), (.slice a2' q.wh.length c2'), (.slice a3' q.gr.length c3'), (.slice a4' q.su.length c4'), (.slice a5' q.ks.length c5')] 32)) := by repeat (first | (with_reducible exact Below.refl _ _) | (with_reducible refine Below.drew ?_) | (with_reducible refine Below.alloc ?_ ?hh _; case hh => first | (simp; done) | (simp; omega) | omega) | (with_reducible refine Below.setCell ?_ ?hh _; case hh => first | (simp; done) | (simp; omega) | omega) | refine bstep (by assumption) (by first | (simp; done) | (simp; omega) | omega) ?_)
  have hA := (box8_new w p (.slice a0 p.it.length c0) (.slice a1 p.fr.length c1) (.slice a2 p.wh.length c2) (.slice a3 p.gr.length c3) (.slice a4 p.su.length c4) (.slice a5 p.ks.length c5) 32).below ((Below.refl _ (w.alloc (.cells #[.bool p.d, .bool p.s, (.slice a0 p.it.length c0), (.slice a1 p.fr.length c1), (.slice a2 p.wh.length c2), (.slice a3 p.gr.length c3), (.slice a4 p.su.length c4), (.slice a5 p.ks.length c5)] 32))).alloc (Nat.le_refl _) (.cells #[.bool q.d, .bool q.s, (.slice a0' q.it.length c0'), (.slice a1' q.fr.length c1'), (.slice a2' q.wh.length c2'), (.slice a3' q.gr.length c3'), (.slice a4' q.su.length c4'), (.slice a5' q.ks.length c5')] 32))
  have hB := box8_new (w.alloc (.cells #[.bool p.d, .bool p.s, (.slice a0 p.it.length c0), (.slice a1 p.fr.length c1), (.slice a2 p.wh.length c2), (.slice a3 p.gr.length c3), (.slice a4 p.su.length c4), (.slice a5 p.ks.length c5)] 32)) q (.slice a0' q.it.length c0') (.slice a1' q.fr.length c1') (.slice a2' q.wh.length c2') (.slice a3' q.gr.length c3') (.slice a4' q.su.length c4') (.slice a5' q.ks.length c5') 32
  rw [World.size_alloc] at hB
  have hlt := hL.lt
  have ho2 := ho.below hlt hbx
  obtain ⟨Fi, Ff, Fw, Fg, Fm, h, rfl, ki, kf, kw, kg, km, kn⟩ := hL.below hbx
  obtain ⟨Fi', Ff', Fw', Fg', Fm', h', rfl, ki', kf', kw', kg', km', kn'⟩ := hM.below hbx
  have os0 := own_subA ho2 (show Fi.Sublist (Fi ++ (Ff ++ (Fw ++ (Fg ++ (Fm ++ h))))) from List.sublist_append_left _ _)
  have os2 := own_subA ho2 (show Fw.Sublist (Fi ++ (Ff ++ (Fw ++ (Fg ++ (Fm ++ h))))) from ((List.sublist_append_left _ _).trans (List.sublist_append_right _ _)).trans (List.sublist_append_right _ _))
  have os3 := own_subA ho2 (show Fg.Sublist (Fi ++ (Ff ++ (Fw ++ (Fg ++ (Fm ++ h))))) from (((List.sublist_append_left _ _).trans (List.sublist_append_right _ _)).trans (List.sublist_append_right _ _)).trans (List.sublist_append_right _ _))
  have os4 := own_subA ho2 (show Fm.Sublist (Fi ++ (Ff ++ (Fw ++ (Fg ++ (Fm ++ h))))) from ((((List.sublist_append_left _ _).trans (List.sublist_append_right _ _)).trans (List.sublist_append_right _ _)).trans (List.sublist_append_right _ _)).trans (List.sublist_append_right _ _))
  have os5 := own_subA ho2 (show h.Sublist (Fi ++ (Ff ++ (Fw ++ (Fg ++ (Fm ++ h))))) from ((((List.sublist_append_right _ _).trans (List.sublist_append_right _ _)).trans (List.sublist_append_right _ _)).trans (List.sublist_append_right _ _)).trans (List.sublist_append_right _ _))
  refine Calls.mono (sameTreesQ_any D d w.heap.size 0 (w.heap.size + 1) 0 N p q h h' _ ⟨hA.1, _, _, _, _, _, _, Fi, Ff, Fw, Fg, Fm, N, hA.cellsQ, ⟨os0, os2, os3, os4⟩, ki, kf, kw, kg, km, kn⟩ ⟨hB.1, _, _, _, _, _, _, Fi', Ff', Fw', Fg', Fm', hB.cellsQ, ki', kf', kw', kg', km', kn'⟩ os5 (kn.fr os5) hn) ?_
  rintro x w1 ⟨rfl, hb1⟩
  have hz1 := hb1.size
  simp only [World.size_alloc] at hz1
  clear hA hB ho2 ki kf kw kg km kn ki' kf' kw' kg' km' kn' os0 os2 os3 os4 os5 hbx hlt
  go_wp2_with fail
  go_returns
  exact ⟨rfl, by repeat (first | (with_reducible exact Below.refl _ _) | (with_reducible refine Below.drew ?_) | (with_reducible refine Below.alloc ?_ ?hh _; case hh => first | (simp; done) | (simp; omega) | omega) | (with_reducible refine Below.setCell ?_ ?hh _; case hh => first | (simp; done) | (simp; omega) | omega) | refine bstep (by assumption) (by first | (simp; done) | (simp; omega) | omega) ?_)⟩
end Go.Proofs.Ytmheiehhdmajfaa
