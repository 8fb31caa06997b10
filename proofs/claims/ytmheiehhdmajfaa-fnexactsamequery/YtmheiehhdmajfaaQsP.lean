/- Own text. What a pointer to a question points at; the contracts of slices.EqualFunc with impl.sameAst, of slices.Equal of texts, and of impl.nextOf. -/
import Derived.Test.YtmheiehhdmajfaaQsS
import Derived.Test.YtmheiehhdmajfaaSaI
import Derived.Test.YtmheiehhdmajfaaTake
import Derived.Handy
import Derived.Deep.OwnRows
import Derived.Deep.RegionHeld3
namespace Go.Proofs.Ytmheiehhdmajfaa
open Go.RowKit Go.Deep
set_option linter.unusedVariables false
theorem wtA_at {es : List A6} {k : Nat} {e : A6} (h : es[k]? = some e) : wtA e ≤ wtAs es := wtA_mem (List.mem_of_getElem? h)
theorem own_subA {w : World} {N : Nat} {F G : List Nat} (h : Own w N F) (hs : G.Sublist F) : Own w N G := ⟨hs.nodup h.1, fun b hb => h.2 b (hs.subset hb)⟩
theorem flat_subA {G : List (List Nat)} {i : Nat} {g : List Nat} (h : G[i]? = some g) : g.Sublist G.flatten := List.sublist_flatten_of_mem (List.mem_of_getElem? h)
set_option maxHeartbeats 4000000 in
set_option maxRecDepth 100000 in
theorem equalFunc_anyA {D N : Nat} (v u : Value) (es fs : List A6) (F F' : List Nat) (w : World) (hv : AstsIs w (D + 1) v es F) (hu : AstsIs w (D + 1) u fs F') (ho : Own w N F) (hn : wtAs es ≤ 1048576) :
    Calls Try.prog 26 #[v, u, .func (.func 27) #[] #[]] w fun x w' => x = .returned (.bool (es.length == fs.length && sameLA D es fs)) ∧ Below w.heap.size w w' := by
  obtain ⟨a, c, b, o, G, rfl, hl, hc, hG, _, ha⟩ := hv.pick
  obtain ⟨a', c', b', o', G', rfl, hl', hc', hG', _, ha'⟩ := hu.pick
  unfold maxLen at hc hc'
  by_cases h1 : ((es.length : Int) != (fs.length : Int)) = true
  · have ht : Hid ((es.length == fs.length && sameLA D es fs) = false) := by
      show (es.length == fs.length && sameLA D es fs) = false
      rw [show (es.length == fs.length) = false from by simp at h1 ⊢; omega, Bool.false_and]
    clear ha ha' hv hu
    go_enter Try.func26, Try.ntmps26
    go_wp2_with fail
    go_returns
    exact ⟨ret_bool ht.out.symm, by repeat (first | (with_reducible exact Below.refl _ _) | (with_reducible refine Below.drew ?_) | (with_reducible refine Below.alloc ?_ ?hh _; case hh => first | (simp; done) | (simp; omega) | omega) | (with_reducible refine Below.setCell ?_ ?hh _; case hh => first | (simp; done) | (simp; omega) | omega) | refine bstep (by assumption) (by first | (simp; done) | (simp; omega) | omega) ?_)⟩
  replace h1 : ((es.length : Int) != (fs.length : Int)) = false := by simpa using h1
  have HL : Hid (es.length = fs.length) := by have := h1; simp at this; show es.length = fs.length; omega
  have ht : Hid ((es.length == fs.length && sameLA D es fs) = sameLA D es fs) := by
    show (es.length == fs.length && sameLA D es fs) = sameLA D es fs
    rw [show (es.length == fs.length) = true from by have := HL.out; simp; omega, Bool.true_and]
  go_enter Try.func26, Try.ntmps26
  go_wp2_with fail
  go_loopw [17] (fun i wr => ∃ k : Nat, k ≤ es.length ∧ i = .int .i64 k ∧ Below w.heap.size w wr ∧ sameLA D es fs = sameLA D (es.drop k) (fs.drop k)) (fun i _ => es.length - (intOf i).toNat)
  case atStart => exact ⟨0, Nat.zero_le _, rfl, by repeat (first | (with_reducible exact Below.refl _ _) | (with_reducible refine Below.drew ?_) | (with_reducible refine Below.alloc ?_ ?hh _; case hh => first | (simp; done) | (simp; omega) | omega) | (with_reducible refine Below.setCell ?_ ?hh _; case hh => first | (simp; done) | (simp; omega) | omega) | refine bstep (by assumption) (by first | (simp; done) | (simp; omega) | omega) ?_), by simp⟩
  case round =>
    obtain ⟨k, hk, rfl, hb, heq⟩ := hrel
    have HE : Hid (sameLA D es fs = sameLA D (es.drop k) (fs.drop k)) := heq
    have hzb := hb.size
    clear heq h1
    by_cases hlt : k < es.length
    · have hlt' : k < fs.length := by have := HL.out; omega
      obtain ⟨rfl, hblt, hF, hL⟩ := ha k hlt
      obtain ⟨rfl, hblt', _, hL'⟩ := ha' k hlt'
      obtain ⟨x, g, vx, hx, hg, _, ⟨c0, c1, c2, c3, c4⟩, c5, hK, hbr⟩ := hL.at hG hblt hb hlt
      obtain ⟨y, g', vy, hy, _, _, ⟨d0, d1, d2, d3, d4⟩, d5, hK', hbr'⟩ := hL'.at hG' hblt' hb hlt'
      have hog : Own wr N g := own_subA (ho.below hv.lt hb) (by rw [hF]; exact (flat_subA hg).cons _)
      have hxn : wtA x ≤ 1048576 := by have := wtA_at hx; omega
      obtain ⟨ax, nx, rfl, _, _⟩ := hK.shape
      obtain ⟨ay, ny, rfl, _, _⟩ := hK'.shape
      have HS : Hid (sameLA D (es.drop k) (fs.drop k) = (sameDA D x y && sameLA D (es.drop (k + 1)) (fs.drop (k + 1)))) := sameLA_step hx hy
      have hltI : (k : Int) < fs.length := by omega
      clear ha ha' hL hL' hx hy hv hu hF
      by_cases hsm : sameDA D x y = true
      · have HB : Hid (sameDA D x y = true) := hsm
        go_wp2_with (first | (go_at_call 27; refine (implSame_anyA x y (.slice ax x.ks.length nx) (.slice ay y.ks.length ny) _ _ _ (hK.below (by repeat (first | (with_reducible exact Below.refl _ _) | (with_reducible refine Below.drew ?_) | (with_reducible refine Below.alloc ?_ ?hh _; case hh => first | (simp; done) | (simp; omega) | omega) | (with_reducible refine Below.setCell ?_ ?hh _; case hh => first | (simp; done) | (simp; omega) | omega) | refine bstep (by assumption) (by first | (simp; done) | (simp; omega) | omega) ?_))) (hK'.below (by repeat (first | (with_reducible exact Below.refl _ _) | (with_reducible refine Below.drew ?_) | (with_reducible refine Below.alloc ?_ ?hh _; case hh => first | (simp; done) | (simp; omega) | omega) | (with_reducible refine Below.setCell ?_ ?hh _; case hh => first | (simp; done) | (simp; omega) | omega) | refine bstep (by assumption) (by first | (simp; done) | (simp; omega) | omega) ?_))) (hog.below hK.lt (by repeat (first | (with_reducible exact Below.refl _ _) | (with_reducible refine Below.drew ?_) | (with_reducible refine Below.alloc ?_ ?hh _; case hh => first | (simp; done) | (simp; omega) | omega) | (with_reducible refine Below.setCell ?_ ?hh _; case hh => first | (simp; done) | (simp; omega) | omega) | refine bstep (by assumption) (by first | (simp; done) | (simp; omega) | omega) ?_))) hxn).mono ?_; rintro z w1 ⟨rfl, hb1⟩; have hz1 := hb1.size; (try simp at hz1)) | fail)
        exact ⟨⟨k + 1, hlt, by simp, by repeat (first | (with_reducible exact Below.refl _ _) | (with_reducible refine Below.drew ?_) | (with_reducible refine Below.alloc ?_ ?hh _; case hh => first | (simp; done) | (simp; omega) | omega) | (with_reducible refine Below.setCell ?_ ?hh _; case hh => first | (simp; done) | (simp; omega) | omega) | refine bstep (by assumption) (by first | (simp; done) | (simp; omega) | omega) ?_), by rw [HE.out, HS.out, HB.out, Bool.true_and]⟩, by simp [intOf]; omega⟩
      · replace hsm : sameDA D x y = false := by simpa using hsm
        have HB : Hid (sameDA D x y = false) := hsm
        go_wp2_with (first | (go_at_call 27; refine (implSame_anyA x y (.slice ax x.ks.length nx) (.slice ay y.ks.length ny) _ _ _ (hK.below (by repeat (first | (with_reducible exact Below.refl _ _) | (with_reducible refine Below.drew ?_) | (with_reducible refine Below.alloc ?_ ?hh _; case hh => first | (simp; done) | (simp; omega) | omega) | (with_reducible refine Below.setCell ?_ ?hh _; case hh => first | (simp; done) | (simp; omega) | omega) | refine bstep (by assumption) (by first | (simp; done) | (simp; omega) | omega) ?_))) (hK'.below (by repeat (first | (with_reducible exact Below.refl _ _) | (with_reducible refine Below.drew ?_) | (with_reducible refine Below.alloc ?_ ?hh _; case hh => first | (simp; done) | (simp; omega) | omega) | (with_reducible refine Below.setCell ?_ ?hh _; case hh => first | (simp; done) | (simp; omega) | omega) | refine bstep (by assumption) (by first | (simp; done) | (simp; omega) | omega) ?_))) (hog.below hK.lt (by repeat (first | (with_reducible exact Below.refl _ _) | (with_reducible refine Below.drew ?_) | (with_reducible refine Below.alloc ?_ ?hh _; case hh => first | (simp; done) | (simp; omega) | omega) | (with_reducible refine Below.setCell ?_ ?hh _; case hh => first | (simp; done) | (simp; omega) | omega) | refine bstep (by assumption) (by first | (simp; done) | (simp; omega) | omega) ?_))) hxn).mono ?_; rintro z w1 ⟨rfl, hb1⟩; have hz1 := hb1.size; (try simp at hz1)) | fail)
        go_returns
        exact ⟨ret_bool (by rw [ht.out, HE.out, HS.out, HB.out, Bool.false_and]), by repeat (first | (with_reducible exact Below.refl _ _) | (with_reducible refine Below.drew ?_) | (with_reducible refine Below.alloc ?_ ?hh _; case hh => first | (simp; done) | (simp; omega) | omega) | (with_reducible refine Below.setCell ?_ ?hh _; case hh => first | (simp; done) | (simp; omega) | omega) | refine bstep (by assumption) (by first | (simp; done) | (simp; omega) | omega) ?_)⟩
    · clear ha ha' hv hu
      go_wp2_with fail
      go_returns
      exact ⟨ret_bool (by rw [ht.out, HE.out, List.drop_eq_nil_of_le (by omega)]; rfl), hb⟩
theorem equalFuncA_as {D N : Nat} (v u : Value) (es fs : List A6) (F F' : List Nat) (w : World) (hv : AstsIs w D v es F) (hu : AstsIs w D u fs F') (ho : Own w N F) (hn : wtAs es ≤ 1048576) :
    Calls Try.prog 26 #[v, u, .func (.func 27) #[] #[]] w fun x w' => x = .returned (.bool (sameAs D es fs)) ∧ Below w.heap.size w w' := by
  cases D with
  | zero => exact hv.elim
  | succ D => exact equalFunc_anyA v u es fs F F' w hv hu ho hn
set_option maxHeartbeats 4000000 in
set_option maxRecDepth 100000 in
theorem equalS_any (v u : Value) (ns ms : List ByteArray) (g g' : List Nat) (w : World) (hr : StrsF w v ns g) (hu : StrsF w u ms g') :
    Calls Try.prog 25 #[v, u] w fun x w' => x = .returned (.bool (sameSs ns ms)) ∧ Below w.heap.size w w' := by
  obtain ⟨a, c, b, o, rfl, hl, hc, _, ha⟩ := hr.pick
  obtain ⟨a', c', b', o', rfl, hl', hc', _, ha'⟩ := hu.pick
  unfold maxLen at hc hc'
  clear hr hu
  unfold sameSs
  by_cases h1 : ((ns.length : Int) != (ms.length : Int)) = true
  · have ht : Hid ((ns.length == ms.length) = false) := by have := h1; simp at this; show (ns.length == ms.length) = false; simp; omega
    rw [ht.out, Bool.false_and]
    clear ha ha'
    go_enter Try.func25, Try.ntmps25
    go_wp2_with fail
    go_returns
    exact ⟨rfl, by repeat (first | (with_reducible exact Below.refl _ _) | (with_reducible refine Below.drew ?_) | (with_reducible refine Below.alloc ?_ ?hh _; case hh => first | (simp; done) | (simp; omega) | omega) | (with_reducible refine Below.setCell ?_ ?hh _; case hh => first | (simp; done) | (simp; omega) | omega) | refine bstep (by assumption) (by first | (simp; done) | (simp; omega) | omega) ?_)⟩
  replace h1 : ((ns.length : Int) != (ms.length : Int)) = false := by simpa using h1
  have HL : Hid (ns.length = ms.length) := by have := h1; simp at this; show ns.length = ms.length; omega
  have ht : Hid ((ns.length == ms.length) = true) := by have := HL.out; show (ns.length == ms.length) = true; simp; omega
  rw [ht.out, Bool.true_and]
  go_enter Try.func25, Try.ntmps25
  go_wp2_with fail
  go_loopw [13] (fun i wr => ∃ k : Nat, k ≤ ns.length ∧ i = .int .i64 k ∧ Below w.heap.size w wr ∧ sameZ ns ms = sameZ (ns.drop k) (ms.drop k)) (fun i _ => ns.length - (intOf i).toNat)
  case atStart => exact ⟨0, Nat.zero_le _, rfl, by repeat (first | (with_reducible exact Below.refl _ _) | (with_reducible refine Below.drew ?_) | (with_reducible refine Below.alloc ?_ ?hh _; case hh => first | (simp; done) | (simp; omega) | omega) | (with_reducible refine Below.setCell ?_ ?hh _; case hh => first | (simp; done) | (simp; omega) | omega) | refine bstep (by assumption) (by first | (simp; done) | (simp; omega) | omega) ?_), by simp⟩
  case round =>
    obtain ⟨k, hk, rfl, hb, heq⟩ := hrel
    have HE : Hid (sameZ ns ms = sameZ (ns.drop k) (ms.drop k)) := heq
    have hzb := hb.size
    clear heq h1
    by_cases hlt : k < ns.length
    · have hlt' : k < ms.length := by have := HL.out; omega
      obtain ⟨rfl, hblt, _, hC⟩ := ha k hlt
      obtain ⟨rfl, hblt', _, hC'⟩ := ha' k hlt'
      have hx : ns[k]? = some ns[k] := by simp
      have hy : ms[k]? = some ms[k] := by simp
      have c0 := (hb.cell (p := ⟨b, _, none⟩) hblt).trans (hC k ns[k] hx)
      have d0 := (hb.cell (p := ⟨b', _, none⟩) hblt').trans (hC' k ms[k] hy)
      have HS : Hid (sameZ (ns.drop k) (ms.drop k) = (ns[k].toList == ms[k].toList && sameZ (ns.drop (k + 1)) (ms.drop (k + 1)))) := sameZ_step hx hy
      generalize ns[k] = x at c0 HS
      generalize ms[k] = y at d0 HS
      have hltI : (k : Int) < ms.length := by omega
      have hbr : b < wr.heap.size := by omega
      have hbr' : b' < wr.heap.size := by omega
      clear ha ha' hC hC' hx hy
      by_cases hsm : (x.toList == y.toList) = true
      · have HB : Hid ((x.toList == y.toList) = true) := hsm
        go_wp2_with fail
        go_region_with fail
        all_goals (go_wp2; exact ⟨⟨k + 1, hlt, by simp, by repeat (first | (with_reducible exact Below.refl _ _) | (with_reducible refine Below.drew ?_) | (with_reducible refine Below.alloc ?_ ?hh _; case hh => first | (simp; done) | (simp; omega) | omega) | (with_reducible refine Below.setCell ?_ ?hh _; case hh => first | (simp; done) | (simp; omega) | omega) | refine bstep (by assumption) (by first | (simp; done) | (simp; omega) | omega) ?_), by rw [HE.out, HS.out, HB.out, Bool.true_and]⟩, by simp [intOf]; omega⟩)
      · replace hsm : (x.toList == y.toList) = false := by simpa only [Bool.not_eq_true] using hsm
        have HB : Hid ((x.toList == y.toList) = false) := hsm
        go_wp2_with fail
        go_region_with fail
        all_goals go_wp2
        all_goals go_returns
        all_goals exact ⟨ret_bool (by rw [HE.out, HS.out, HB.out, Bool.false_and]), by repeat (first | (with_reducible exact Below.refl _ _) | (with_reducible refine Below.drew ?_) | (with_reducible refine Below.alloc ?_ ?hh _; case hh => first | (simp; done) | (simp; omega) | omega) | (with_reducible refine Below.setCell ?_ ?hh _; case hh => first | (simp; done) | (simp; omega) | omega) | refine bstep (by assumption) (by first | (simp; done) | (simp; omega) | omega) ?_)⟩
    · clear ha ha'
      go_wp2_with fail
      go_returns
      exact ⟨ret_bool (by rw [HE.out, List.drop_eq_nil_of_le (by omega)]; rfl), hb⟩
/-- the pointer to cell q of block b points at the question p, whose next ones are at most d deep and lie in the blocks h. -/
def PtQ (w : World) (D d b q : Nat) (p : S8) (h : List Nat) : Prop :=
  b < w.heap.size ∧ ∃ ui uf uw ug um u Fi Ff Fw Fg Fm, cellsQ w b q p ui uf uw ug um u ∧ AstsIs w D ui p.it Fi  ∧ StrsF w uf p.fr Ff  ∧ AstsIs w D uw p.wh Fw  ∧ AstsIs w D ug p.gr Fg  ∧ AstsIs w D um p.su Fm  ∧ SelsIs w D d u p.ks h 
/-- .. and its expressions are the call's own. -/
def PtQO (w : World) (D d b q : Nat) (p : S8) (h : List Nat) : Prop :=
  b < w.heap.size ∧ ∃ ui uf uw ug um u Fi Ff Fw Fg Fm N, cellsQ w b q p ui uf uw ug um u ∧ (Own w N Fi ∧ Own w N Fw ∧ Own w N Fg ∧ Own w N Fm) ∧ AstsIs w D ui p.it Fi  ∧ StrsF w uf p.fr Ff  ∧ AstsIs w D uw p.wh Fw  ∧ AstsIs w D ug p.gr Fg  ∧ AstsIs w D um p.su Fm  ∧ SelsIs w D d u p.ks h 
theorem PtQ.below {w w' : World} {D d b q : Nat} {p : S8} {h : List Nat} (hp : PtQ w D d b q p h) (hb : Below w.heap.size w w') : PtQ w' D d b q p h := by
  obtain ⟨hl, ui, uf, uw, ug, um, u, Fi, Ff, Fw, Fg, Fm, hc, ki, kf, kw, kg, km, kn⟩ := hp
  exact ⟨Nat.lt_of_lt_of_le hl hb.size, ui, uf, uw, ug, um, u, Fi, Ff, Fw, Fg, Fm, hc.keep (hb.block b hl), ki.below hb, kf.below hb, kw.below hb, kg.below hb, km.below hb, kn.below hb⟩
theorem PtQO.below {w w' : World} {D d b q : Nat} {p : S8} {h : List Nat} (hp : PtQO w D d b q p h) (hb : Below w.heap.size w w') : PtQO w' D d b q p h := by
  obtain ⟨hl, ui, uf, uw, ug, um, u, Fi, Ff, Fw, Fg, Fm, N, hc, ⟨o0, o2, o3, o4⟩, ki, kf, kw, kg, km, kn⟩ := hp
  exact ⟨Nat.lt_of_lt_of_le hl hb.size, ui, uf, uw, ug, um, u, Fi, Ff, Fw, Fg, Fm, N, hc.keep (hb.block b hl), ⟨o0.below ki.lt hb, o2.below kw.lt hb, o3.below kg.lt hb, o4.below km.lt hb⟩, ki.below hb, kf.below hb, kw.below hb, kg.below hb, km.below hb, kn.below hb⟩
theorem PtQO.pt {w : World} {D d b q : Nat} {p : S8} {h : List Nat} (hp : PtQO w D d b q p h) : PtQ w D d b q p h := by
  obtain ⟨hl, ui, uf, uw, ug, um, u, Fi, Ff, Fw, Fg, Fm, N, hc, _, ki, kf, kw, kg, km, kn⟩ := hp
  exact ⟨hl, ui, uf, uw, ug, um, u, Fi, Ff, Fw, Fg, Fm, hc, ki, kf, kw, kg, km, kn⟩
theorem flat_map_subQ {q r : Nat → List Nat} : ∀ (l : List Nat), (∀ i ∈ l, (q i).Sublist (r i)) → (l.map q).flatten.Sublist (l.map r).flatten
  | [], _ => List.Sublist.refl _
  | i :: l, h => by
    rw [List.map_cons, List.map_cons, List.flatten_cons, List.flatten_cons]
    exact (h i List.mem_cons_self).append (flat_map_subQ l fun j hj => h j (List.mem_cons_of_mem _ hj))
theorem flat_getDQ : ∀ (G : List (List Nat)), ((List.range G.length).map fun j => G.getD j []).flatten = G.flatten
  | [] => rfl
  | g :: G => by
    rw [List.length_cons, List.range_succ_eq_map, List.map_cons, List.flatten_cons, List.map_map, List.flatten_cons, ← flat_getDQ G]
    rfl
/-- the kids of a plan that is the call's own. -/
theorem QLies.own {w : World} {D d b o N : Nat} {ps : List S8} {G : List (List Nat)} (h0 : QLies w D d b o ps G) (hG : G.length = ps.length) (hlt : b < w.heap.size) (ho : Own w N G.flatten) :
    ∃ K : List (List Nat), K.length = ps.length ∧ K.flatten.Sublist G.flatten ∧ ∀ (i : Nat) (p : S8) (k : List Nat), ps[i]? = some p → K[i]? = some k → PtQO w D d b (o + i * 8) p k := by
  have each : ∀ i, i < ps.length → ∃ k : List Nat, k.Sublist (G.getD i []) ∧ ∀ p : S8, ps[i]? = some p → PtQO w D d b (o + i * 8) p k := by
    intro i hi
    have hi' : i < G.length := by omega
    obtain ⟨_, ui, uf, uw, ug, um, u, hc, Fi, Ff, Fw, Fg, Fm, h, hg, ki, kf, kw, kg, km, kn⟩ := h0 i ps[i] G[i] (by simp) (by simp)
    have e : G.getD i [] = G[i] := by simp [List.getD_eq_getElem?_getD, hi']
    have hs : G[i].Sublist G.flatten := List.sublist_flatten_of_mem (by simp)
    have s0 : Fi.Sublist G[i] := by rw [hg]; exact List.sublist_append_left _ _
    have s1 : Ff.Sublist G[i] := by rw [hg]; exact (List.sublist_append_left _ _).trans (List.sublist_append_right _ _)
    have s2 : Fw.Sublist G[i] := by rw [hg]; exact ((List.sublist_append_left _ _).trans (List.sublist_append_right _ _)).trans (List.sublist_append_right _ _)
    have s3 : Fg.Sublist G[i] := by rw [hg]; exact (((List.sublist_append_left _ _).trans (List.sublist_append_right _ _)).trans (List.sublist_append_right _ _)).trans (List.sublist_append_right _ _)
    have s4 : Fm.Sublist G[i] := by rw [hg]; exact ((((List.sublist_append_left _ _).trans (List.sublist_append_right _ _)).trans (List.sublist_append_right _ _)).trans (List.sublist_append_right _ _)).trans (List.sublist_append_right _ _)
    have s5 : h.Sublist G[i] := by rw [hg]; exact ((((List.sublist_append_right _ _).trans (List.sublist_append_right _ _)).trans (List.sublist_append_right _ _)).trans (List.sublist_append_right _ _)).trans (List.sublist_append_right _ _)
    refine ⟨h, by rw [e]; exact s5, fun p hp => ?_⟩
    obtain rfl : ps[i] = p := by simpa [hi] using hp
    exact ⟨hlt, ui, uf, uw, ug, um, u, Fi, Ff, Fw, Fg, Fm, N, hc, ⟨own_subA ho (s0.trans hs), own_subA ho (s2.trans hs), own_subA ho (s3.trans hs), own_subA ho (s4.trans hs)⟩, ki, kf, kw, kg, km, kn⟩
  obtain ⟨q, hq⟩ := choose_lt each
  refine ⟨(List.range ps.length).map q, by simp, ?_, fun i p k hp hk => ?_⟩
  · rw [← flat_getDQ G, hG]
    exact flat_map_subQ _ fun i hi => (hq i (List.mem_range.1 hi)).1
  · have hi : i < ps.length := (List.getElem?_eq_some_iff.1 hp).1
    obtain rfl : q i = k := by simpa [hi] using hk
    exact (hq i hi).2 p hp
theorem QLies.pts {w : World} {D d b o : Nat} {ps : List S8} {G : List (List Nat)} (h0 : QLies w D d b o ps G) (hG : G.length = ps.length) (hlt : b < w.heap.size) :
    ∃ K : List (List Nat), K.length = ps.length ∧ ∀ (i : Nat) (p : S8) (k : List Nat), ps[i]? = some p → K[i]? = some k → PtQ w D d b (o + i * 8) p k := by
  have each : ∀ i, i < ps.length → ∃ k : List Nat, ∀ p : S8, ps[i]? = some p → PtQ w D d b (o + i * 8) p k := by
    intro i hi
    have hi' : i < G.length := by omega
    obtain ⟨_, ui, uf, uw, ug, um, u, hc, Fi, Ff, Fw, Fg, Fm, h, hg, ki, kf, kw, kg, km, kn⟩ := h0 i ps[i] G[i] (by simp) (by simp)
    refine ⟨h, fun p hp => ?_⟩
    obtain rfl : ps[i] = p := by simpa [hi] using hp
    exact ⟨hlt, ui, uf, uw, ug, um, u, Fi, Ff, Fw, Fg, Fm, hc, ki, kf, kw, kg, km, kn⟩
  obtain ⟨q, hq⟩ := choose_lt each
  refine ⟨(List.range ps.length).map q, by simp, fun i p k hp hk => ?_⟩
  have hi : i < ps.length := (List.getElem?_eq_some_iff.1 hp).1
  obtain rfl : q i = k := by simpa [hi] using hk
  exact hq i hi p hp
set_option maxHeartbeats 1000000 in
theorem nextOf_any (b q : Nat) (u : Value) (w : World) (hl : b < w.heap.size) (h : w.cell? ⟨b, q + 7, none⟩ = some u) :
    Calls Try.prog 18 #[.pointer (some ⟨b, q, none⟩)] w fun x w' => x = .returned (.pointer (some ⟨b, q + 7, none⟩)) ∧ w' = w := by
  go_enter Try.func18, Try.ntmps18
  go_wp2
  go_returns
  exact ⟨rfl, rfl⟩
end Go.Proofs.Ytmheiehhdmajfaa
