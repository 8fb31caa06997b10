/- Own text. The contract of spec.AddBag. -/
import Derived.Test.YtcldekhihijcjaaTalV
import Derived.Test.YtcldekhihijcjaaPutT
import Derived.Test.YtcldekhihijcjaaCopyS
import Derived.Test.YtcldekhihijcjaaBagOkS
import Derived.Handy
namespace Go.Proofs.Ytcldekhihijcjaa
open Go.RowKit Go.Shelf
set_option linter.unusedVariables false
set_option maxHeartbeats 2000000 in
set_option maxRecDepth 100000 in
theorem specAdd_any (W Wb : Int) (va vb : Value) (cs ds : List C2) (F F2 : List Nat) (w : World) (ha : RowsF w va cs F) (hb : RowsF w vb ds F2) (hn : wtb cs ≤ 1048576) (hn2 : wtb ds ≤ 1048576) (wc : CsWf cs) (wd : CsWf ds) :
    Calls Try.prog 16 #[.agg #[.int .i64 W, va], .agg #[.int .i64 Wb, vb]] w fun e w' => (∃ u us G, e = .returned (.agg #[.int .i64 W, u]) ∧ BagOwn w' w.heap.size u (addC W Wb cs ds) us G) ∧ Below w.heap.size w w' := by
  obtain ⟨aa, ca, rfl⟩ : ∃ a c, va = .slice a cs.length c := by obtain ⟨a, c, _, e, _⟩ := ha; exact ⟨a, c, e⟩
  obtain ⟨ab, cb, rfl⟩ : ∃ a c, vb = .slice a ds.length c := by obtain ⟨a, c, _, e, _⟩ := hb; exact ⟨a, c, e⟩
  go_enter Try.func16, Try.ntmps16
  go_wp2_with fail
  refine Calls.mono (specBagOk_any W (.slice aa cs.length ca) cs _ wc (ha.is.below ?hba)) ?_
  case hba => repeat (first | (with_reducible exact Below.refl _ _) | (with_reducible refine Below.drew ?_) | (with_reducible refine Below.alloc ?_ ?hh _; case hh => first | (simp; done) | (simp; omega) | omega) | (with_reducible refine Below.setCell ?_ ?hh _; case hh => first | (simp; done) | (simp; omega) | omega) | refine bstep (by assumption) (by first | (simp; done) | (simp; omega) | omega) ?_)
  rintro e w1 ⟨rfl, hb1⟩
  have hz1 := hb1.size
  (try simp at hz1)
  have ap0 : w1.cell? ⟨w.heap.size, 0, none⟩ = some (.int .i64 W) := cell_later hb1 (by go_simp)
  have ap1 : w1.cell? ⟨w.heap.size, 1, none⟩ = some (.slice aa cs.length ca) := cell_later hb1 (by go_simp)
  have aq0 : w1.cell? ⟨w.heap.size + 1, 0, none⟩ = some (.int .i64 Wb) := cell_later hb1 (by go_simp)
  have aq1 : w1.cell? ⟨w.heap.size + 1, 1, none⟩ = some (.slice ab ds.length cb) := cell_later hb1 (by go_simp)
  have ar0 : w1.cell? ⟨w.heap.size + 1 + 1, 0, none⟩ = some (.int .i64 0) := cell_later hb1 (by go_simp)
  have ar1 : w1.cell? ⟨w.heap.size + 1 + 1, 1, none⟩ = some (.slice none 0 0) := cell_later hb1 (by go_simp)
  have arf : ∀ q, w1.frozen? ⟨w.heap.size + 1 + 1, q, none⟩ = false := fun q => ((bcell hb1).2 _ q (by first | omega | (simp; done) | (simp; omega))).trans (by go_simp)
  have abw : Below w.heap.size w w1 := by repeat (first | (with_reducible exact Below.refl _ _) | (with_reducible refine Below.drew ?_) | (with_reducible refine Below.alloc ?_ ?hh _; case hh => first | (simp; done) | (simp; omega) | omega) | (with_reducible refine Below.setCell ?_ ?hh _; case hh => first | (simp; done) | (simp; omega) | omega) | refine bstep (by assumption) (by first | (simp; done) | (simp; omega) | omega) ?_)
  have az : w.heap.size + 1 + 1 < w1.heap.size := by omega
  have az0 : w.heap.size < w1.heap.size := by omega
  have az1 : w.heap.size + 1 < w1.heap.size := by omega
  clear hb1
  cases hok : okBag W cs with
  | false =>
    have HA : Hid (addC W Wb cs ds = cs) := addC_no (by rw [sumOk, hok]; rfl)
    clear hb
    go_wp2_with fail
    refine Calls.mono (l02Copy_any W (.slice aa cs.length ca) cs F _ (ha.below ?hba) hn) ?_
    case hba => repeat (first | (with_reducible exact Below.refl _ _) | (with_reducible refine Below.drew ?_) | (with_reducible refine Below.alloc ?_ ?hh _; case hh => first | (simp; done) | (simp; omega) | omega) | (with_reducible refine Below.setCell ?_ ?hh _; case hh => first | (simp; done) | (simp; omega) | omega) | refine bstep (by assumption) (by first | (simp; done) | (simp; omega) | omega) ?_)
    rintro e w7 ⟨⟨u7, us7, G7, rfl, hO7⟩, hb7⟩
    obtain ⟨a7, n7, rfl⟩ := hO7.shape
    have hz7 := hb7.size
    (try simp at hz7)
    have z0 : w7.cell? ⟨w.heap.size + 1 + 1, 0, none⟩ = some (.int .i64 0) := cell_later hb7 (by go_simp)
    have z1 : w7.cell? ⟨w.heap.size + 1 + 1, 1, none⟩ = some (.slice none 0 0) := cell_later hb7 (by go_simp)
    have zf : ∀ q, w7.frozen? ⟨w.heap.size + 1 + 1, q, none⟩ = false := fun q => ((bcell hb7).2 _ q (by first | omega | (simp; done) | (simp; omega))).trans (by go_simp)
    have hw7 : w.heap.size + 1 + 1 < w7.heap.size := by omega
    have hbw7 : Below w.heap.size w w7 := by repeat (first | (with_reducible exact Below.refl _ _) | (with_reducible refine Below.drew ?_) | (with_reducible refine Below.alloc ?_ ?hh _; case hh => first | (simp; done) | (simp; omega) | omega) | (with_reducible refine Below.setCell ?_ ?hh _; case hh => first | (simp; done) | (simp; omega) | omega) | refine bstep (by assumption) (by first | (simp; done) | (simp; omega) | omega) ?_)
    replace hO7 := hO7.weak (M := w.heap.size + 1 + 1 + 1) (by first | omega | (simp; done) | (simp; omega))
    clear ap0 ap1 aq0 aq1 ar0 ar1 arf hb7
    go_wp2_with fail
    refine bodyPost_ret (v := .agg #[.int .i64 W, .slice a7 cs.length n7]) (by simp [results, Try.results16, go_sem, *]) rfl ⟨⟨_, us7, G7, rfl, by rw [HA.out]; exact (hO7.keep (w' := _) (by simp) fun k hk _ => (by rw [Below.heap_setCell _ _ _ _ (by first | omega | (simp; done) | (simp; omega)), Below.heap_setCell _ _ _ _ (by first | omega | (simp; done) | (simp; omega))])).weak (by omega)⟩, ?_⟩
    exact (hbw7.setCell (by first | omega | (simp; done) | (simp; omega)) _).setCell (by first | omega | (simp; done) | (simp; omega)) _
  | true =>
    go_wp2_with fail
    refine Calls.mono (specBagOk_any Wb (.slice ab ds.length cb) ds _ wd (hb.is.below ?hbb)) ?_
    case hbb => repeat (first | (with_reducible exact Below.refl _ _) | (with_reducible refine Below.drew ?_) | (with_reducible refine Below.alloc ?_ ?hh _; case hh => first | (simp; done) | (simp; omega) | omega) | (with_reducible refine Below.setCell ?_ ?hh _; case hh => first | (simp; done) | (simp; omega) | omega) | refine bstep (by assumption) (by first | (simp; done) | (simp; omega) | omega) ?_)
    rintro e w2 ⟨rfl, hb2⟩
    have hz2 := hb2.size
    (try simp at hz2)
    have bp0 : w2.cell? ⟨w.heap.size, 0, none⟩ = some (.int .i64 W) := cell_later hb2 (by go_simp)
    have bp1 : w2.cell? ⟨w.heap.size, 1, none⟩ = some (.slice aa cs.length ca) := cell_later hb2 (by go_simp)
    have bq0 : w2.cell? ⟨w.heap.size + 1, 0, none⟩ = some (.int .i64 Wb) := cell_later hb2 (by go_simp)
    have bq1 : w2.cell? ⟨w.heap.size + 1, 1, none⟩ = some (.slice ab ds.length cb) := cell_later hb2 (by go_simp)
    have br0 : w2.cell? ⟨w.heap.size + 1 + 1, 0, none⟩ = some (.int .i64 0) := cell_later hb2 (by go_simp)
    have br1 : w2.cell? ⟨w.heap.size + 1 + 1, 1, none⟩ = some (.slice none 0 0) := cell_later hb2 (by go_simp)
    have brf : ∀ q, w2.frozen? ⟨w.heap.size + 1 + 1, q, none⟩ = false := fun q => ((bcell hb2).2 _ q (by first | omega | (simp; done) | (simp; omega))).trans (by go_simp)
    have bbw : Below w.heap.size w w2 := by repeat (first | (with_reducible exact Below.refl _ _) | (with_reducible refine Below.drew ?_) | (with_reducible refine Below.alloc ?_ ?hh _; case hh => first | (simp; done) | (simp; omega) | omega) | (with_reducible refine Below.setCell ?_ ?hh _; case hh => first | (simp; done) | (simp; omega) | omega) | refine bstep (by assumption) (by first | (simp; done) | (simp; omega) | omega) ?_)
    have bz : w.heap.size + 1 + 1 < w2.heap.size := by omega
    have bz0 : w.heap.size < w2.heap.size := by omega
    have bz1 : w.heap.size + 1 < w2.heap.size := by omega
    clear hb2 ap0 ap1 aq0 aq1 ar0 ar1 arf
    cases hok2 : okBag Wb ds with
    | false =>
      have HA : Hid (addC W Wb cs ds = cs) := addC_no (by rw [sumOk, hok, hok2]; rfl)
      clear hb
      go_wp2_with fail
      refine Calls.mono (l02Copy_any W (.slice aa cs.length ca) cs F _ (ha.below ?hba) hn) ?_
      case hba => repeat (first | (with_reducible exact Below.refl _ _) | (with_reducible refine Below.drew ?_) | (with_reducible refine Below.alloc ?_ ?hh _; case hh => first | (simp; done) | (simp; omega) | omega) | (with_reducible refine Below.setCell ?_ ?hh _; case hh => first | (simp; done) | (simp; omega) | omega) | refine bstep (by assumption) (by first | (simp; done) | (simp; omega) | omega) ?_)
      rintro e w7 ⟨⟨u7, us7, G7, rfl, hO7⟩, hb7⟩
      obtain ⟨a7, n7, rfl⟩ := hO7.shape
      have hz7 := hb7.size
      (try simp at hz7)
      have z0 : w7.cell? ⟨w.heap.size + 1 + 1, 0, none⟩ = some (.int .i64 0) := cell_later hb7 (by go_simp)
      have z1 : w7.cell? ⟨w.heap.size + 1 + 1, 1, none⟩ = some (.slice none 0 0) := cell_later hb7 (by go_simp)
      have zf : ∀ q, w7.frozen? ⟨w.heap.size + 1 + 1, q, none⟩ = false := fun q => ((bcell hb7).2 _ q (by first | omega | (simp; done) | (simp; omega))).trans (by go_simp)
      have hw7 : w.heap.size + 1 + 1 < w7.heap.size := by omega
      have hbw7 : Below w.heap.size w w7 := by repeat (first | (with_reducible exact Below.refl _ _) | (with_reducible refine Below.drew ?_) | (with_reducible refine Below.alloc ?_ ?hh _; case hh => first | (simp; done) | (simp; omega) | omega) | (with_reducible refine Below.setCell ?_ ?hh _; case hh => first | (simp; done) | (simp; omega) | omega) | refine bstep (by assumption) (by first | (simp; done) | (simp; omega) | omega) ?_)
      replace hO7 := hO7.weak (M := w.heap.size + 1 + 1 + 1) (by first | omega | (simp; done) | (simp; omega))
      clear bp0 bp1 bq0 bq1 br0 br1 brf hb7
      go_wp2_with fail
      refine bodyPost_ret (v := .agg #[.int .i64 W, .slice a7 cs.length n7]) (by simp [results, Try.results16, go_sem, *]) rfl ⟨⟨_, us7, G7, rfl, by rw [HA.out]; exact (hO7.keep (w' := _) (by simp) fun k hk _ => (by rw [Below.heap_setCell _ _ _ _ (by first | omega | (simp; done) | (simp; omega)), Below.heap_setCell _ _ _ _ (by first | omega | (simp; done) | (simp; omega))])).weak (by omega)⟩, ?_⟩
      exact (hbw7.setCell (by first | omega | (simp; done) | (simp; omega)) _).setCell (by first | omega | (simp; done) | (simp; omega)) _
    | true =>
      by_cases hww : W = Wb
      rotate_left
      · have hwI : (W != Wb) = true := by simpa using hww
        have HA : Hid (addC W Wb cs ds = cs) := addC_no (by rw [sumOk, hok, hok2]; simp [hww])
        clear hb
        go_wp2_with fail
        refine Calls.mono (l02Copy_any W (.slice aa cs.length ca) cs F _ (ha.below ?hba) hn) ?_
        case hba => repeat (first | (with_reducible exact Below.refl _ _) | (with_reducible refine Below.drew ?_) | (with_reducible refine Below.alloc ?_ ?hh _; case hh => first | (simp; done) | (simp; omega) | omega) | (with_reducible refine Below.setCell ?_ ?hh _; case hh => first | (simp; done) | (simp; omega) | omega) | refine bstep (by assumption) (by first | (simp; done) | (simp; omega) | omega) ?_)
        rintro e w7 ⟨⟨u7, us7, G7, rfl, hO7⟩, hb7⟩
        obtain ⟨a7, n7, rfl⟩ := hO7.shape
        have hz7 := hb7.size
        (try simp at hz7)
        have z0 : w7.cell? ⟨w.heap.size + 1 + 1, 0, none⟩ = some (.int .i64 0) := cell_later hb7 (by go_simp)
        have z1 : w7.cell? ⟨w.heap.size + 1 + 1, 1, none⟩ = some (.slice none 0 0) := cell_later hb7 (by go_simp)
        have zf : ∀ q, w7.frozen? ⟨w.heap.size + 1 + 1, q, none⟩ = false := fun q => ((bcell hb7).2 _ q (by first | omega | (simp; done) | (simp; omega))).trans (by go_simp)
        have hw7 : w.heap.size + 1 + 1 < w7.heap.size := by omega
        have hbw7 : Below w.heap.size w w7 := by repeat (first | (with_reducible exact Below.refl _ _) | (with_reducible refine Below.drew ?_) | (with_reducible refine Below.alloc ?_ ?hh _; case hh => first | (simp; done) | (simp; omega) | omega) | (with_reducible refine Below.setCell ?_ ?hh _; case hh => first | (simp; done) | (simp; omega) | omega) | refine bstep (by assumption) (by first | (simp; done) | (simp; omega) | omega) ?_)
        replace hO7 := hO7.weak (M := w.heap.size + 1 + 1 + 1) (by first | omega | (simp; done) | (simp; omega))
        clear bp0 bp1 bq0 bq1 br0 br1 brf hb7
        go_wp2_with fail
        refine bodyPost_ret (v := .agg #[.int .i64 W, .slice a7 cs.length n7]) (by simp [results, Try.results16, go_sem, *]) rfl ⟨⟨_, us7, G7, rfl, by rw [HA.out]; exact (hO7.keep (w' := _) (by simp) fun k hk _ => (by rw [Below.heap_setCell _ _ _ _ (by first | omega | (simp; done) | (simp; omega)), Below.heap_setCell _ _ _ _ (by first | omega | (simp; done) | (simp; omega))])).weak (by omega)⟩, ?_⟩
        exact (hbw7.setCell (by first | omega | (simp; done) | (simp; omega)) _).setCell (by first | omega | (simp; done) | (simp; omega)) _
      · subst hww
        obtain ⟨_, _, _, ac, gc⟩ := okBag_all hok wc
        obtain ⟨_, _, _, ad, gd⟩ := okBag_all hok2 wd
        obtain ⟨P, HP⟩ : ∃ P, Hid (sumC cs ds 1 = P) := ⟨_, rfl⟩
        have hPw : CsWf P := by rw [← HP.out]; exact sumC_wf hok hok2 wc wd
        have hK : sumOk W W cs ds = okBag W P := by rw [sumOk, hok, hok2, HP.out]; simp
        go_wp2_with fail
        refine Calls.mono (l02Sum_any W W 1 (.slice aa cs.length ca) (.slice ab ds.length cb) cs ds F F2 _ (ha.below ?hba) (hb.below ?hbb) hn hn2 ac (fun c hc => (gc c hc).2.1) (fun c hc => by have := (gc c hc).2.2; omega) (fun c hc => by have := (gd c hc).2.2; omega) P HP) ?_
        case hba => repeat (first | (with_reducible exact Below.refl _ _) | (with_reducible refine Below.drew ?_) | (with_reducible refine Below.alloc ?_ ?hh _; case hh => first | (simp; done) | (simp; omega) | omega) | (with_reducible refine Below.setCell ?_ ?hh _; case hh => first | (simp; done) | (simp; omega) | omega) | refine bstep (by assumption) (by first | (simp; done) | (simp; omega) | omega) ?_)
        case hbb => repeat (first | (with_reducible exact Below.refl _ _) | (with_reducible refine Below.drew ?_) | (with_reducible refine Below.alloc ?_ ?hh _; case hh => first | (simp; done) | (simp; omega) | omega) | (with_reducible refine Below.setCell ?_ ?hh _; case hh => first | (simp; done) | (simp; omega) | omega) | refine bstep (by assumption) (by first | (simp; done) | (simp; omega) | omega) ?_)
        rintro e w3 ⟨⟨u3, us3, G3, rfl, hO3⟩, hb3⟩
        obtain ⟨a3, n3, rfl⟩ := hO3.shape
        have hz3 := hb3.size
        (try simp at hz3)
        have cp0 : w3.cell? ⟨w.heap.size, 0, none⟩ = some (.int .i64 W) := cell_later hb3 (by go_simp)
        have cp1 : w3.cell? ⟨w.heap.size, 1, none⟩ = some (.slice aa cs.length ca) := cell_later hb3 (by go_simp)
        have cq0 : w3.cell? ⟨w.heap.size + 1, 0, none⟩ = some (.int .i64 W) := cell_later hb3 (by go_simp)
        have cq1 : w3.cell? ⟨w.heap.size + 1, 1, none⟩ = some (.slice ab ds.length cb) := cell_later hb3 (by go_simp)
        have cr0 : w3.cell? ⟨w.heap.size + 1 + 1, 0, none⟩ = some (.int .i64 0) := cell_later hb3 (by go_simp)
        have cr1 : w3.cell? ⟨w.heap.size + 1 + 1, 1, none⟩ = some (.slice none 0 0) := cell_later hb3 (by go_simp)
        have crf : ∀ q, w3.frozen? ⟨w.heap.size + 1 + 1, q, none⟩ = false := fun q => ((bcell hb3).2 _ q (by first | omega | (simp; done) | (simp; omega))).trans (by go_simp)
        have cbw : Below w.heap.size w w3 := by repeat (first | (with_reducible exact Below.refl _ _) | (with_reducible refine Below.drew ?_) | (with_reducible refine Below.alloc ?_ ?hh _; case hh => first | (simp; done) | (simp; omega) | omega) | (with_reducible refine Below.setCell ?_ ?hh _; case hh => first | (simp; done) | (simp; omega) | omega) | refine bstep (by assumption) (by first | (simp; done) | (simp; omega) | omega) ?_)
        have cz : w.heap.size + 1 + 1 < w3.heap.size := by omega
        have cz0 : w.heap.size < w3.heap.size := by omega
        have cz1 : w.heap.size + 1 < w3.heap.size := by omega
        clear hb3 bp0 bp1 bq0 bq1 br0 br1 brf
        obtain ⟨FP, hFP, _⟩ := hO3.rowsF
        have hRP := hFP.is
        clear hFP ac gc ad gd
        go_wp2_with fail
        refine Calls.mono (specBagOk_any W (.slice a3 P.length n3) P _ hPw (hRP.below ?hbp)) ?_
        case hbp => repeat (first | (with_reducible exact Below.refl _ _) | (with_reducible refine Below.drew ?_) | (with_reducible refine Below.alloc ?_ ?hh _; case hh => first | (simp; done) | (simp; omega) | omega) | (with_reducible refine Below.setCell ?_ ?hh _; case hh => first | (simp; done) | (simp; omega) | omega) | refine bstep (by assumption) (by first | (simp; done) | (simp; omega) | omega) ?_)
        rintro e w4 ⟨rfl, hb4⟩
        have hz4 := hb4.size
        (try simp at hz4)
        have t0 : w4.cell? ⟨w3.heap.size, 0, none⟩ = some (.int .i64 W) := cell_later hb4 (by go_simp)
        have t1 : w4.cell? ⟨w3.heap.size, 1, none⟩ = some (.slice a3 P.length n3) := cell_later hb4 (by go_simp)
        have hb34 : Below w3.heap.size w3 w4 := by repeat (first | (with_reducible exact Below.refl _ _) | (with_reducible refine Below.drew ?_) | (with_reducible refine Below.alloc ?_ ?hh _; case hh => first | (simp; done) | (simp; omega) | omega) | (with_reducible refine Below.setCell ?_ ?hh _; case hh => first | (simp; done) | (simp; omega) | omega) | refine bstep (by assumption) (by first | (simp; done) | (simp; omega) | omega) ?_)
        have hz34 : w3.heap.size < w4.heap.size := by omega
        have dp0 : w4.cell? ⟨w.heap.size, 0, none⟩ = some (.int .i64 W) := cell_later hb4 (by go_simp)
        have dp1 : w4.cell? ⟨w.heap.size, 1, none⟩ = some (.slice aa cs.length ca) := cell_later hb4 (by go_simp)
        have dq0 : w4.cell? ⟨w.heap.size + 1, 0, none⟩ = some (.int .i64 W) := cell_later hb4 (by go_simp)
        have dq1 : w4.cell? ⟨w.heap.size + 1, 1, none⟩ = some (.slice ab ds.length cb) := cell_later hb4 (by go_simp)
        have dr0 : w4.cell? ⟨w.heap.size + 1 + 1, 0, none⟩ = some (.int .i64 0) := cell_later hb4 (by go_simp)
        have dr1 : w4.cell? ⟨w.heap.size + 1 + 1, 1, none⟩ = some (.slice none 0 0) := cell_later hb4 (by go_simp)
        have drf : ∀ q, w4.frozen? ⟨w.heap.size + 1 + 1, q, none⟩ = false := fun q => ((bcell hb4).2 _ q (by first | omega | (simp; done) | (simp; omega))).trans (by go_simp)
        have dbw : Below w.heap.size w w4 := by repeat (first | (with_reducible exact Below.refl _ _) | (with_reducible refine Below.drew ?_) | (with_reducible refine Below.alloc ?_ ?hh _; case hh => first | (simp; done) | (simp; omega) | omega) | (with_reducible refine Below.setCell ?_ ?hh _; case hh => first | (simp; done) | (simp; omega) | omega) | refine bstep (by assumption) (by first | (simp; done) | (simp; omega) | omega) ?_)
        have dz : w.heap.size + 1 + 1 < w4.heap.size := by omega
        have dz0 : w.heap.size < w4.heap.size := by omega
        have dz1 : w.heap.size + 1 < w4.heap.size := by omega
        clear hb4 cp0 cp1 cq0 cq1 cr0 cr1 crf
        cases hok4 : okBag W P with
        | false =>
          have HA : Hid (addC W W cs ds = cs) := addC_no (by rw [hK, hok4])
          clear hb hO3
          go_wp2_with fail
          refine Calls.mono (l02Copy_any W (.slice aa cs.length ca) cs F _ (ha.below ?hba) hn) ?_
          case hba => repeat (first | (with_reducible exact Below.refl _ _) | (with_reducible refine Below.drew ?_) | (with_reducible refine Below.alloc ?_ ?hh _; case hh => first | (simp; done) | (simp; omega) | omega) | (with_reducible refine Below.setCell ?_ ?hh _; case hh => first | (simp; done) | (simp; omega) | omega) | refine bstep (by assumption) (by first | (simp; done) | (simp; omega) | omega) ?_)
          rintro e w7 ⟨⟨u7, us7, G7, rfl, hO7⟩, hb7⟩
          obtain ⟨a7, n7, rfl⟩ := hO7.shape
          have hz7 := hb7.size
          (try simp at hz7)
          have z0 : w7.cell? ⟨w.heap.size + 1 + 1, 0, none⟩ = some (.int .i64 0) := cell_later hb7 (by go_simp)
          have z1 : w7.cell? ⟨w.heap.size + 1 + 1, 1, none⟩ = some (.slice none 0 0) := cell_later hb7 (by go_simp)
          have zf : ∀ q, w7.frozen? ⟨w.heap.size + 1 + 1, q, none⟩ = false := fun q => ((bcell hb7).2 _ q (by first | omega | (simp; done) | (simp; omega))).trans (by go_simp)
          have hw7 : w.heap.size + 1 + 1 < w7.heap.size := by omega
          have hbw7 : Below w.heap.size w w7 := by repeat (first | (with_reducible exact Below.refl _ _) | (with_reducible refine Below.drew ?_) | (with_reducible refine Below.alloc ?_ ?hh _; case hh => first | (simp; done) | (simp; omega) | omega) | (with_reducible refine Below.setCell ?_ ?hh _; case hh => first | (simp; done) | (simp; omega) | omega) | refine bstep (by assumption) (by first | (simp; done) | (simp; omega) | omega) ?_)
          replace hO7 := hO7.weak (M := w.heap.size + 1 + 1 + 1) (by first | omega | (simp; done) | (simp; omega))
          clear dp0 dp1 dq0 dq1 dr0 dr1 drf t0 t1 hb7
          go_wp2_with fail
          refine bodyPost_ret (v := .agg #[.int .i64 W, .slice a7 cs.length n7]) (by simp [results, Try.results16, go_sem, *]) rfl ⟨⟨_, us7, G7, rfl, by rw [HA.out]; exact (hO7.keep (w' := _) (by simp) fun k hk _ => (by rw [Below.heap_setCell _ _ _ _ (by first | omega | (simp; done) | (simp; omega)), Below.heap_setCell _ _ _ _ (by first | omega | (simp; done) | (simp; omega))])).weak (by omega)⟩, ?_⟩
          exact (hbw7.setCell (by first | omega | (simp; done) | (simp; omega)) _).setCell (by first | omega | (simp; done) | (simp; omega)) _
        | true =>
          have HA : Hid (addC W W cs ds = P) := by rw [Hid, addC_yes (by rw [hK, hok4]), HP.out]
          replace hO3 := (hO3.below hb34).weak (M := w.heap.size + 1 + 1 + 1) (by first | omega | (simp; done) | (simp; omega))
          clear ha hb
          go_wp2_with fail
          refine bodyPost_ret (v := .agg #[.int .i64 W, .slice a3 P.length n3]) (by simp [results, Try.results16, go_sem, *]) rfl ⟨⟨_, us3, G3, rfl, by rw [HA.out]; exact (hO3.keep (w' := _) (by simp) fun k hk _ => (by rw [Below.heap_setCell _ _ _ _ (by first | omega | (simp; done) | (simp; omega)), Below.heap_setCell _ _ _ _ (by first | omega | (simp; done) | (simp; omega))])).weak (by omega)⟩, ?_⟩
          exact (dbw.setCell (by first | omega | (simp; done) | (simp; omega)) _).setCell (by first | omega | (simp; done) | (simp; omega)) _
end Go.Proofs.Ytcldekhihijcjaa
