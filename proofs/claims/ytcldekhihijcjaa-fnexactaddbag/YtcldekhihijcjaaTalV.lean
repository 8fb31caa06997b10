/- Own text. The contract of impl.AddBag. -/
import Derived.Test.YtcldekhihijcjaaTalU
import Derived.Test.YtcldekhihijcjaaCopyB
import Derived.Handy
namespace Go.Proofs.Ytcldekhihijcjaa
open Go.RowKit Go.Shelf
set_option linter.unusedVariables false
theorem addC_yes {W Wb : Int} {cs ds : List C2} (h : sumOk W Wb cs ds = true) : addC W Wb cs ds = sumC cs ds 1 := if_pos h
theorem addC_no {W Wb : Int} {cs ds : List C2} (h : sumOk W Wb cs ds = false) : addC W Wb cs ds = cs := if_neg (by rw [show (okBag W cs && okBag Wb ds && W == Wb && okBag W (sumC cs ds 1)) = sumOk W Wb cs ds from rfl, h]; simp)
set_option maxHeartbeats 8000000 in
set_option maxRecDepth 100000 in
theorem implAdd_any (W Wb : Int) (va vb : Value) (cs ds : List C2) (F F2 : List Nat) (w : World) (ha : RowsF w va cs F) (hb : RowsF w vb ds F2) (hn : wtb cs ≤ 1048576) (hn2 : wtb ds ≤ 1048576) (wc : CsWf cs) (wd : CsWf ds) :
    Calls Try.prog 18 #[.agg #[.int .i64 W, va], .agg #[.int .i64 Wb, vb]] w fun e w' => (∃ u us G, e = .returned (.agg #[.int .i64 W, u]) ∧ BagOwn w' w.heap.size u (addC W Wb cs ds) us G) ∧ Below w.heap.size w w' := by
  obtain ⟨aa, ca, rfl⟩ : ∃ a c, va = .slice a cs.length c := by obtain ⟨a, c, _, e, _⟩ := ha; exact ⟨a, c, e⟩
  obtain ⟨ab, cb, rfl⟩ : ∃ a c, vb = .slice a ds.length c := by obtain ⟨a, c, _, e, _⟩ := hb; exact ⟨a, c, e⟩
  go_enter Try.func18, Try.ntmps18
  go_wp2_with fail
  refine Calls.mono (sumOf_any W Wb (.slice aa cs.length ca) (.slice ab ds.length cb) cs ds F F2 _ (w.heap.size + 1 + 1 + 1) ?c0 ?c1 ?c2 ?c3 ?hB (ha.below ?hba) (hb.below ?hbb) hn hn2 wc wd) ?_
  case c0 => go_simp
  case c1 => go_simp
  case c2 => go_simp
  case c3 => go_simp
  case hB => simp
  case hba => repeat (first | (with_reducible exact Below.refl _ _) | (with_reducible refine Below.drew ?_) | (with_reducible refine Below.alloc ?_ ?hh _; case hh => first | (simp; done) | (simp; omega) | omega) | (with_reducible refine Below.setCell ?_ ?hh _; case hh => first | (simp; done) | (simp; omega) | omega) | refine bstep (by assumption) (by first | (simp; done) | (simp; omega) | omega) ?_)
  case hbb => repeat (first | (with_reducible exact Below.refl _ _) | (with_reducible refine Below.drew ?_) | (with_reducible refine Below.alloc ?_ ?hh _; case hh => first | (simp; done) | (simp; omega) | omega) | (with_reducible refine Below.setCell ?_ ?hh _; case hh => first | (simp; done) | (simp; omega) | omega) | refine bstep (by assumption) (by first | (simp; done) | (simp; omega) | omega) ?_)
  rintro e w1 ⟨⟨V, u, R, us, G, rfl, hO, hyes⟩, hb1⟩
  obtain ⟨au, cu, rfl⟩ := hO.shape
  have hz1 := hb1.size
  simp only [World.size_alloc] at hz1
  have p0 : w1.cell? ⟨w.heap.size, 0, none⟩ = some (.int .i64 W) := cell_later hb1 (by go_simp)
  have p1 : w1.cell? ⟨w.heap.size, 1, none⟩ = some (.slice aa cs.length ca) := cell_later hb1 (by go_simp)
  have r0 : w1.cell? ⟨w.heap.size + 1 + 1, 0, none⟩ = some (.int .i64 0) := cell_later hb1 (by go_simp)
  have r1 : w1.cell? ⟨w.heap.size + 1 + 1, 1, none⟩ = some (.slice none 0 0) := cell_later hb1 (by go_simp)
  have rf : ∀ q, w1.frozen? ⟨w.heap.size + 1 + 1, q, none⟩ = false := fun q => ((bcell hb1).2 _ q (by first | (simp; done) | (simp; omega))).trans (by go_simp)
  have hbw : Below w.heap.size w w1 := by repeat (first | (with_reducible exact Below.refl _ _) | (with_reducible refine Below.drew ?_) | (with_reducible refine Below.alloc ?_ ?hh _; case hh => first | (simp; done) | (simp; omega) | omega) | (with_reducible refine Below.setCell ?_ ?hh _; case hh => first | (simp; done) | (simp; omega) | omega) | refine bstep (by assumption) (by first | (simp; done) | (simp; omega) | omega) ?_)
  have hw1 : w.heap.size < w1.heap.size := by omega
  have hw2 : w.heap.size + 1 + 1 < w1.heap.size := by omega
  replace hO := hO.weak (M := w.heap.size + 1 + 1 + 1) (by first | (simp; done) | (simp; omega))
  obtain ⟨kk, HK⟩ : ∃ kk, Hid (sumOk W Wb cs ds = kk) := ⟨_, rfl⟩
  rw [HK.out] at hyes ⊢
  clear hb1 hb
  cases kk with
  | true =>
    have HA : Hid (addC W Wb cs ds = sumC cs ds 1) := addC_yes HK.out
    obtain ⟨rfl, rfl⟩ := hyes rfl
    obtain ⟨P, HP⟩ : ∃ P, Hid (sumC cs ds 1 = P) := ⟨_, rfl⟩
    rw [HP.out] at hO HA ⊢
    clear hyes ha
    go_wp2_with fail
    refine bodyPost_ret (v := .agg #[.int .i64 V, .slice au P.length cu]) (by simp [results, Try.results18, go_sem, *]) rfl ⟨⟨_, us, G, rfl, by rw [HA.out]; exact (hO.keep (w' := _) (by simp) fun k hk hk2 => (by rw [Below.heap_alloc _ _ _ (by simpa using hk2), Below.heap_setCell _ _ _ _ (by first | (simp; done) | (simp; omega)), Below.heap_setCell _ _ _ _ (by first | (simp; done) | (simp; omega))])).weak (by omega)⟩, ?_⟩
    exact ((hbw.setCell (by first | (simp; done) | (simp; omega)) _).setCell (by first | (simp; done) | (simp; omega)) _).alloc (by first | (simp; done) | (simp; omega)) _
  | false =>
    have HA : Hid (addC W Wb cs ds = cs) := addC_no HK.out
    clear hyes hO
    go_wp2_with fail
    refine Calls.mono (copyBag_any W (.slice aa cs.length ca) cs F _ (ha.below ?hba) hn) ?_
    case hba => repeat (first | (with_reducible exact Below.refl _ _) | (with_reducible refine Below.drew ?_) | (with_reducible refine Below.alloc ?_ ?hh _; case hh => first | (simp; done) | (simp; omega) | omega) | (with_reducible refine Below.setCell ?_ ?hh _; case hh => first | (simp; done) | (simp; omega) | omega) | refine bstep (by assumption) (by first | (simp; done) | (simp; omega) | omega) ?_)
    rintro e w3 ⟨⟨u3, us3, G3, rfl, hO3⟩, hb3⟩
    obtain ⟨a3, n3, rfl⟩ := hO3.shape
    have hz3 := hb3.size
    simp only [World.size_alloc] at hz3
    have s0 : w3.cell? ⟨w.heap.size + 1 + 1, 0, none⟩ = some (.int .i64 0) := cell_later hb3 (by go_simp)
    have s1 : w3.cell? ⟨w.heap.size + 1 + 1, 1, none⟩ = some (.slice none 0 0) := cell_later hb3 (by go_simp)
    have sf : ∀ q, w3.frozen? ⟨w.heap.size + 1 + 1, q, none⟩ = false := fun q => ((bcell hb3).2 _ q (by first | (simp; done) | (simp; omega))).trans (by go_simp)
    have hw3 : w.heap.size + 1 + 1 < w3.heap.size := by omega
    have hbw3 : Below w.heap.size w w3 := by repeat (first | (with_reducible exact Below.refl _ _) | (with_reducible refine Below.drew ?_) | (with_reducible refine Below.alloc ?_ ?hh _; case hh => first | (simp; done) | (simp; omega) | omega) | (with_reducible refine Below.setCell ?_ ?hh _; case hh => first | (simp; done) | (simp; omega) | omega) | refine bstep (by assumption) (by first | (simp; done) | (simp; omega) | omega) ?_)
    replace hO3 := hO3.weak (M := w.heap.size + 1 + 1 + 1) (by first | (simp; done) | (simp; omega))
    clear r0 r1 rf p0 p1 hb3
    go_wp2_with fail
    refine bodyPost_ret (v := .agg #[.int .i64 W, .slice a3 cs.length n3]) (by simp [results, Try.results18, go_sem, *]) rfl ⟨⟨_, us3, G3, rfl, by rw [HA.out]; exact (hO3.keep (w' := _) (by simp) fun k hk _ => (by rw [Below.heap_setCell _ _ _ _ (by first | (simp; done) | (simp; omega)), Below.heap_setCell _ _ _ _ (by first | (simp; done) | (simp; omega))])).weak (by omega)⟩, ?_⟩
    exact (hbw3.setCell (by first | (simp; done) | (simp; omega)) _).setCell (by first | (simp; done) | (simp; omega)) _
end Go.Proofs.Ytcldekhihijcjaa
