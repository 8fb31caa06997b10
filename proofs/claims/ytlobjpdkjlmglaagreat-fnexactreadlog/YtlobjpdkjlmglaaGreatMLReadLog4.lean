/- Own texts, joined: contracts that the law's proof goes by. -/
import Derived.Test.YtlobjpdkjlmglaaGreatMLReadLog3
import Derived.Test.YtlobjpdkjlmglaaGreatMLReadLog1
import Derived.Handy
import Derived.Test.YtlobjpdkjlmglaaGreatStrK
import Derived.Deep.RegionHeld3
import Derived.Deep.OwnRows
import Derived.Test.YtlobjpdkjlmglaaGreatStpK
import Derived.Test.YtlobjpdkjlmglaaGreatMLReadLog2
import Derived.Test.YtlobjpdkjlmglaaGreatKit
import Derived.Test.YtlobjpdkjlmglaaGreatBagC
import Derived.WalkKit
import Derived.WalkSpells
import Derived.WalkLawsBesides
import Derived.Below
import Derived.Deep.DeepCutAuto
/- Own text. toRelS, with the blocks of what it makes. -/
namespace Go.Proofs.YtlobjpdkjlmglaaGreat
open Go.RowKit Go.Deep
set_option linter.unusedVariables false
/-- relations of the call's own: block B0 has them, the first k are laid, their rows in the blocks G. -/
structure HalfRF (w : World) (B0 : Nat) (rs : List R3) (k : Nat) (G : List (List Nat)) : Prop where
  row : ∃ f, w.rowIs B0 75 (rs.length * 3) f ∧ ∀ i x g, i < k → rs[i]? = some x → G[i]? = some g → f (i * 3) = .string x.s ∧ f (i * 3 + 1) = .int .i64 x.W ∧ RowsF w (f (i * 3 + 2)) x.cs g
  gl : G.length = k
  kl : k ≤ rs.length
  own : Own w (B0 + 1) G.flatten
theorem HalfRF.cells {w : World} {B : Nat} {rs : List R3} {k : Nat} {G : List (List Nat)} (h : HalfRF w B rs k G) (hk : k < rs.length) :
    (∃ u, w.cell? ⟨B, k * 3, none⟩ = some u) ∧ (∃ u, w.cell? ⟨B, k * 3 + 1, none⟩ = some u) ∧ (∃ u, w.cell? ⟨B, k * 3 + 2, none⟩ = some u) ∧ (∀ i, w.frozen? ⟨B, i, none⟩ = false) ∧ B < w.heap.size := by
  obtain ⟨f, h, _⟩ := h.row
  exact ⟨⟨_, h.cell (by omega)⟩, ⟨_, h.cell (by omega)⟩, ⟨_, h.cell (by omega)⟩, fun i => h.frozen i, h.lt⟩
theorem HalfRF.lt {w : World} {B : Nat} {rs : List R3} {k : Nat} {G : List (List Nat)} (h : HalfRF w B rs k G) : ∀ b ∈ G.flatten, b < w.heap.size := by
  intro b hb
  obtain ⟨g, hg, hbg⟩ := List.mem_flatten.1 hb
  obtain ⟨i, hi, rfl⟩ := List.mem_iff_getElem.1 hg
  have h1 := h.gl
  have h2 := h.kl
  obtain ⟨f, _, he⟩ := h.row
  have hi' : i < rs.length := by omega
  exact (he i rs[i] G[i] (by omega) (by simp) (by simp)).2.2.lt b hbg
theorem HalfRF.below {w w' : World} {B : Nat} {rs : List R3} {k : Nat} {G : List (List Nat)} (h : HalfRF w B rs k G) (hb : Below w.heap.size w w') : HalfRF w' B rs k G := by
  have hlt := h.lt
  obtain ⟨⟨f, hf, he⟩, gl, kl, own⟩ := h
  refine ⟨⟨f, hf.of_block (hb.block _ hf.lt), fun i x g hi hx hg => ?_⟩, gl, kl, own.below hlt hb⟩
  obtain ⟨h0, h1, h2⟩ := he i x g hi hx hg
  exact ⟨h0, h1, h2.below hb⟩
theorem HalfRF.step {w : World} {B : Nat} {rs : List R3} {k : Nat} {G : List (List Nat)} {x : R3} {u : Value} {g : List Nat} {M : Nat} (h : HalfRF w B rs k G) (hx : rs[k]? = some x) (hR : RowsF w u x.cs g) (hO : Own w M g) (hM : B < M) (hd : ∀ b ∈ G.flatten, b < M) :
    HalfRF (((w.setCell ⟨B, k * 3, none⟩ (.string x.s)).setCell ⟨B, k * 3 + 1, none⟩ (.int .i64 x.W)).setCell ⟨B, k * 3 + 2, none⟩ u) B rs (k + 1) (G ++ [g]) := by
  obtain ⟨⟨f, hf, he⟩, gl, kl, own⟩ := h
  have hblk : ∀ b, B < b → (((w.setCell ⟨B, k * 3, none⟩ (.string x.s)).setCell ⟨B, k * 3 + 1, none⟩ (.int .i64 x.W)).setCell ⟨B, k * 3 + 2, none⟩ u).heap[b]? = w.heap[b]? := by
    intro b hb
    repeat rw [Below.heap_setCell _ _ _ _ (by show b ≠ B; omega)]
  refine ⟨⟨_, ((hf.set _ _).set _ _).set _ _, fun i y g' hi hy hg' => ?_⟩, by simp [gl], (List.getElem?_eq_some_iff.1 hx).1, ?_⟩
  · by_cases e : i = k
    · subst e
      obtain rfl : y = x := by rw [hx] at hy; exact (Option.some.inj hy).symm
      obtain rfl : g' = g := by rw [List.getElem?_append_right (by omega), gl] at hg'; simp at hg'; exact hg'.symm
      refine ⟨by simp, by simp, ?_⟩
      simp only [if_true]
      exact hR.keep (by simp) fun b hb => hblk b (by have := hO.2.1 b hb; omega)
    · have n : ∀ p q : Nat, p < 3 → q < 3 → i * 3 + p ≠ k * 3 + q := by intro p q hp hq; omega
      have n0 : ∀ q : Nat, q < 3 → i * 3 ≠ k * 3 + q := by intro q hq; omega
      have n1 : ∀ p : Nat, p < 3 → i * 3 + p ≠ k * 3 := by intro q hq; omega
      have n2 : i * 3 ≠ k * 3 := by omega
      rw [List.getElem?_append_left (by omega)] at hg'
      obtain ⟨h0, h1, h2⟩ := he i y g' (by omega) hy hg'
      refine ⟨?_, ?_, ?_⟩
      · simp only [if_neg n2, if_neg (n0 1 (by omega)), if_neg (n0 2 (by omega))]; exact h0
      · simp only [if_neg (n1 1 (by omega)), if_neg (n 1 1 (by omega) (by omega)), if_neg (n 1 2 (by omega) (by omega))]; exact h1
      · simp only [if_neg (n1 2 (by omega)), if_neg (n 2 1 (by omega) (by omega)), if_neg (n 2 2 (by omega) (by omega))]
        exact h2.keep (by simp) fun b hb => hblk b (by have := own.2.1 b (List.mem_flatten.2 ⟨g', List.mem_of_getElem? hg', hb⟩); omega)
  · have hm : ∀ b ∈ (G ++ [g]).flatten, b ∈ G.flatten ∨ b ∈ g := by intro b hb; simpa using hb
    have hgt : ∀ b ∈ (G ++ [g]).flatten, B + 1 ≤ b := fun b hb => (hm b hb).elim (own.2.1 b) (fun h => by have := hO.2.1 b h; omega)
    refine Own.keep (w := w) ⟨?_, hgt, fun b hb => (hm b hb).elim (own.2.2 b) (hO.2.2 b)⟩ fun b hb => hblk b (hgt b hb)
    rw [List.flatten_append, List.nodup_append]
    refine ⟨own.1, by simpa using hO.1, fun a ha b hb => ?_⟩
    rintro rfl
    have h1 := hd a ha
    have h2 := hO.2.1 a (by simpa using hb)
    omega
theorem HalfRF.relsF {w : World} {B : Nat} {rs : List R3} {G : List (List Nat)} (h : HalfRF w B rs rs.length G) (hn : wtR rs ≤ 1048576) : ∃ F, RelsF w (.slice (some ⟨B, 0, none⟩) rs.length rs.length) rs F ∧ Own w B F := by
  obtain ⟨⟨f, hf, he⟩, gl, kl, own⟩ := h
  have hm : rs.length ≤ maxLen := by unfold wtR at hn; unfold maxLen; omega
  by_cases hne : rs = []
  · exact ⟨[], ⟨_, _, G, rfl, Nat.le_refl _, hm, (fun x => by cases x), gl, fun _ => rfl, fun x => absurd hne x⟩, by simp [Own, Free]⟩
  refine ⟨B :: G.flatten, ⟨_, _, G, rfl, Nat.le_refl _, hm, (fun x => by cases x), gl, fun x => absurd x hne, fun _ => ⟨B, 0, rfl, hf.lt, rfl, fun i x g hx hg => ?_⟩⟩, List.nodup_cons.2 ⟨fun hb => by have := own.2.1 B hb; omega, own.1⟩, fun b hb => ?_, fun b hb o => ?_⟩
  · have hi : i < rs.length := (List.getElem?_eq_some_iff.1 hx).1
    obtain ⟨e0, e1, e2⟩ := he i x g hi hx hg
    exact ⟨_, by rw [Nat.zero_add, hf.cell (by omega), e0], by rw [Nat.zero_add, hf.cell (by omega), e1], by rw [Nat.zero_add, hf.cell (by omega)], e2⟩
  · rcases List.mem_cons.1 hb with rfl | hb
    · exact Nat.le_refl _
    · have := own.2.1 b hb; omega
  · rcases List.mem_cons.1 hb with rfl | hb
    · exact hf.frozen o
    · exact own.2.2 b hb o
theorem halfRF_made (w : World) (z : Array Value) (rs : List R3) : HalfRF (w.alloc (.cells (madeCells z (rs.length * 3)) 75)) w.heap.size rs 0 [] :=
  ⟨⟨fun i => (madeCells z (rs.length * 3))[i]?.getD undef, ⟨_, blk_alloc_new _ _, size_madeCells _ _, fun i hi => by
    have : i < (madeCells z (rs.length * 3)).size := by rw [size_madeCells]; exact hi
    simp [this]⟩, fun i x g hi => by omega⟩, rfl, Nat.zero_le _, by simp [Own, Free]⟩
end Go.Proofs.YtlobjpdkjlmglaaGreat
/- Own text. Lists of texts: eqStringS at one list twice. -/
namespace Go.Proofs.YtlobjpdkjlmglaaGreat
open Go.RowKit Go.Deep
set_option linter.unusedVariables false
set_option maxHeartbeats 1000000 in
set_option maxRecDepth 100000 in
theorem eqStringS_same (v u : Value) (ns : List ByteArray) (g g' : List Nat) (w : World) (hr : StrsF w v ns g) (hu : StrsF w u ns g') :
    Calls Tryz.prog 91 #[v, u] w fun e w' => e = .returned (.bool true) ∧ Below w.heap.size w w' := by
  obtain ⟨a, c, b, o, rfl, hl, hc, _, ha⟩ := hr.pick
  obtain ⟨a', c', b', o', rfl, hl', hc', _, ha'⟩ := hu.pick
  unfold maxLen at hc hc'
  clear hr hu
  go_enter Tryz.func91, Tryz.ntmps91
  go_wp2
  go_loopw [5] (fun i wr => ∃ n : Nat, n ≤ ns.length ∧ i = .int .i64 n ∧ Below w.heap.size w wr) (fun i _ => ns.length - (intOf i).toNat)
  case atStart => exact ⟨0, Nat.zero_le _, rfl, by go_grown⟩
  case round =>
    obtain ⟨n, hn, rfl, hb⟩ := hrel
    by_cases hlt : n < ns.length
    · obtain ⟨rfl, hblt, _, hC⟩ := ha n hlt
      obtain ⟨rfl, hblt', _, hC'⟩ := ha' n hlt
      have hzb := hb.size
      have c0 := (hb.cell (p := ⟨b, _, none⟩) hblt).trans (hC n ns[n] (by simp))
      have c1 := (hb.cell (p := ⟨b', _, none⟩) hblt').trans (hC' n ns[n] (by simp))
      generalize ns[n] = z at c0 c1
      clear ha ha' hC hC'
      have hbr : b < wr.heap.size := by omega
      have hbr' : b' < wr.heap.size := by omega
      go_wp2_with fail
      go_region_with fail
      all_goals go_wp2
      all_goals exact ⟨⟨n + 1, hlt, by simp, by repeat (first | (with_reducible exact Below.refl _ _) | (with_reducible refine Below.drew ?_) | (with_reducible refine Below.alloc ?_ ?hh _; case hh => first | (simp; done) | (simp; omega) | omega) | (with_reducible refine Below.setCell ?_ ?hh _; case hh => first | (simp; done) | (simp; omega) | omega) | refine bstep (by assumption) (by first | (simp; done) | (simp; omega) | omega) ?_)⟩, by simp [intOf]; omega⟩
    · go_wp2
      go_returns
      exact ⟨rfl, hb⟩
end Go.Proofs.YtlobjpdkjlmglaaGreat
/- Own text. Lists of texts: how much one weighs (szStringS), a new one with the same texts (toStringS). -/
namespace Go.Proofs.YtlobjpdkjlmglaaGreat
open Go.RowKit Go.Deep
set_option linter.unusedVariables false
theorem Tryz.infoStr : (Tryz.prog.info? 9).map (fun i => (i.zero, i.size, i.bytes)) = some (some (.string ⟨#[]⟩), 1, 16) := by kernel_rfl
/-- texts of the call's own: block B has them, the first k are laid. -/
def HalfS (w : World) (B : Nat) (ns : List ByteArray) (k : Nat) : Prop := ∃ f, w.rowIs B 9 ns.length f ∧ ∀ i n, i < k → ns[i]? = some n → f i = .string n
theorem HalfS.cells {w : World} {B : Nat} {ns : List ByteArray} {k : Nat} (h : HalfS w B ns k) (hk : k < ns.length) : (∃ u, w.cell? ⟨B, k, none⟩ = some u) ∧ (∀ i, w.frozen? ⟨B, i, none⟩ = false) ∧ B < w.heap.size := by
  obtain ⟨f, h, _⟩ := h
  exact ⟨⟨_, h.cell (by omega)⟩, fun i => h.frozen i, h.lt⟩
theorem HalfS.step {w : World} {B : Nat} {ns : List ByteArray} {k : Nat} {x : ByteArray} (h : HalfS w B ns k) (hx : ns[k]? = some x) : HalfS (w.setCell ⟨B, k, none⟩ (.string x)) B ns (k + 1) := by
  obtain ⟨f, h, e⟩ := h
  refine ⟨_, h.set _ _, fun i y hi hy => ?_⟩
  by_cases ek : i = k
  · subst ek
    rw [hx] at hy
    simp [Option.some.inj hy]
  · simp only [if_neg ek]
    exact e i y (by omega) hy
theorem halfS_made (w : World) (z : Array Value) (ns : List ByteArray) : HalfS (w.alloc (.cells (madeCells z ns.length) 9)) w.heap.size ns 0 :=
  ⟨fun i => (madeCells z ns.length)[i]?.getD undef, ⟨_, blk_alloc_new _ _, size_madeCells _ _, fun i hi => by
    have : i < (madeCells z ns.length).size := by rw [size_madeCells]; exact hi
    simp [this]⟩, fun i x hi => by omega⟩
theorem HalfS.done {w : World} {B : Nat} {ns : List ByteArray} (h : HalfS w B ns ns.length) (hm : ns.length ≤ maxLen) (hne : ns ≠ []) : StrsF w (.slice (some ⟨B, 0, none⟩) ns.length ns.length) ns [B] ∧ OwnN w B [B] := by
  obtain ⟨f, hf, he⟩ := h
  refine ⟨⟨_, _, rfl, Nat.le_refl _, hm, fun h => absurd h hne, fun _ => ⟨B, 0, rfl, hf.lt, rfl, fun i n hn => ?_⟩⟩, by simp, fun b hb => ?_⟩
  · have hi : i < ns.length := (List.getElem?_eq_some_iff.1 hn).1
    rw [Nat.zero_add, hf.cell (by omega), he i n hi hn]
  · rcases List.mem_singleton.1 hb with rfl
    exact ⟨Nat.le_refl _, fun o => hf.frozen o⟩
end Go.Proofs.YtlobjpdkjlmglaaGreat
/- Own text. Steps: how much one weighs (szStep), a new one that is the same (toStep), eqStep at one step twice. -/
namespace Go.Proofs.YtlobjpdkjlmglaaGreat
open Go.RowKit Go.Deep
set_option linter.unusedVariables false
set_option maxHeartbeats 2000000 in
set_option maxRecDepth 100000 in
theorem eqStep_same (x : T5) (uc ur vc vr : Value) (w : World) (hr : StpIs w uc ur x) (hu : StpIs w vc vr x) :
    Calls Tryz.prog 56 #[(.agg #[.int .i64 x.k, .string x.s, uc, .string x.q, ur]), (.agg #[.int .i64 x.k, .string x.s, vc, .string x.q, vr])] w fun e w' => e = .returned (.bool true) ∧ Below w.heap.size w w' := by
  obtain ⟨⟨ac, cc, rfl, _, _⟩, ar, cr, rfl, _, _⟩ := hr.shape
  obtain ⟨⟨ac', cc', rfl, _, _⟩, ar', cr', rfl, _, _⟩ := hu.shape
  obtain ⟨⟨g, hS⟩, hR⟩ := hr
  obtain ⟨⟨g', hS'⟩, hR'⟩ := hu
  go_enter Tryz.func56, Tryz.ntmps56
  go_wp2_with fail
  refine Calls.mono (eqStringS_same (.slice ac x.cs.length cc) (.slice ac' x.cs.length cc') x.cs g g' _ (hS.below ?hb) (hS'.below ?hc)) ?_
  case hb => repeat (first | exact Below.refl _ _ | refine Below.drew ?_ | refine Below.alloc ?_ (by first | (simp; done) | (simp; omega) | omega) _ | refine Below.setCell ?_ (by first | (simp; done) | (simp; omega) | omega) _ | refine bstep (by assumption) (by first | (simp; done) | (simp; omega) | omega) ?_)
  case hc => repeat (first | exact Below.refl _ _ | refine Below.drew ?_ | refine Below.alloc ?_ (by first | (simp; done) | (simp; omega) | omega) _ | refine Below.setCell ?_ (by first | (simp; done) | (simp; omega) | omega) _ | refine bstep (by assumption) (by first | (simp; done) | (simp; omega) | omega) ?_)
  rintro e w1 ⟨rfl, hb1⟩
  have hz1 := hb1.size
  simp only [World.size_alloc] at hz1
  have qa : w1.cell? ⟨w.heap.size, 3, none⟩ = some (.string x.q) := cell_later hb1 (by go_simp)
  have qb : w1.cell? ⟨w.heap.size, 4, none⟩ = some (.slice ar x.rs.length cr) := cell_later hb1 (by go_simp)
  have qc : w1.cell? ⟨w.heap.size + 1, 3, none⟩ = some (.string x.q) := cell_later hb1 (by go_simp)
  have qd : w1.cell? ⟨w.heap.size + 1, 4, none⟩ = some (.slice ar' x.rs.length cr') := cell_later hb1 (by go_simp)
  have bel1 : Below w.heap.size w w1 := by repeat (first | exact Below.refl _ _ | refine Below.drew ?_ | refine Below.alloc ?_ (by first | (simp; done) | (simp; omega) | omega) _ | refine Below.setCell ?_ (by first | (simp; done) | (simp; omega) | omega) _ | refine bstep (by assumption) (by first | (simp; done) | (simp; omega) | omega) ?_)
  clear hb1
  go_wp2_with fail
  refine Calls.mono (eqRelS_same (.slice ar x.rs.length cr) (.slice ar' x.rs.length cr') x.rs w1 (hR.below bel1) (hR'.below bel1)) ?_
  rintro e w2 ⟨rfl, hb2⟩
  have bel2 : Below w.heap.size w w2 := bel1.trans (hb2.mono bel1.size)
  go_wp2
  go_returns
  exact ⟨rfl, bel2⟩
end Go.Proofs.YtlobjpdkjlmglaaGreat
/- Own text. eqStepS at two lists of the same steps. -/
namespace Go.Proofs.YtlobjpdkjlmglaaGreat
open Go.RowKit Go.Deep
set_option linter.unusedVariables false
theorem StsIs.pick {w : World} {v : Value} {ts : List T5} (h : StsIs w v ts) : ∃ a c b o, v = .slice a ts.length c ∧ ts.length ≤ c ∧ c ≤ maxLen ∧ ∀ k, k < ts.length → a = some ⟨b, o, none⟩ ∧ b < w.heap.size ∧ TLies w b o ts := by
  obtain ⟨a, c, rfl, hl, hc, h⟩ := h
  by_cases hne : ts = []
  · exact ⟨a, c, 0, 0, rfl, hl, hc, fun k hk => by rw [hne] at hk; simp at hk⟩
  · obtain ⟨b, o, h⟩ := h hne
    exact ⟨a, c, b, o, rfl, hl, hc, fun _ _ => h⟩
theorem TLies.at {w w' : World} {b o : Nat} {ts : List T5} (h : TLies w b o ts) (hlt : b < w.heap.size) (hb : Below w.heap.size w w') {k : Nat} (hk : k < ts.length) :
    ∃ (x : T5) (u : Value × Value), ts[k]? = some x ∧ w'.cell? ⟨b, o + k * 5, none⟩ = some (.int .i64 x.k) ∧ w'.cell? ⟨b, o + k * 5 + 1, none⟩ = some (.string x.s) ∧ w'.cell? ⟨b, o + k * 5 + 2, none⟩ = some u.1 ∧ w'.cell? ⟨b, o + k * 5 + 3, none⟩ = some (.string x.q) ∧ w'.cell? ⟨b, o + k * 5 + 4, none⟩ = some u.2 ∧ StpIs w' u.1 u.2 x ∧ b < w'.heap.size := by
  obtain ⟨u, a0, a1, a2, a3, a4, a5⟩ := h k ts[k] (by simp [hk])
  have hbb := hb.block b hlt
  exact ⟨ts[k], u, by simp [hk], (cell_blk hbb).trans a0, (cell_blk hbb).trans a1, (cell_blk hbb).trans a2, (cell_blk hbb).trans a3, (cell_blk hbb).trans a4, a5.below hb, Nat.lt_of_lt_of_le hlt hb.size⟩
set_option maxHeartbeats 4000000 in
set_option maxRecDepth 100000 in
theorem eqStepS_same (v u : Value) (rs : List T5) (w : World) (hr : StsIs w v rs) (hu : StsIs w u rs) :
    Calls Tryz.prog 23 #[v, u] w fun e w' => e = .returned (.bool true) ∧ Below w.heap.size w w' := by
  obtain ⟨a, c, b, o, rfl, hl, hc, ha⟩ := hr.pick
  obtain ⟨a', c', b', o', rfl, hl', hc', ha'⟩ := hu.pick
  unfold maxLen at hc hc'
  clear hr hu
  go_enter Tryz.func23, Tryz.ntmps23
  go_wp2
  go_loopw [5] (fun i wr => ∃ k : Nat, k ≤ rs.length ∧ i = .int .i64 k ∧ Below w.heap.size w wr) (fun i _ => rs.length - (intOf i).toNat)
  case atStart => exact ⟨0, Nat.zero_le _, rfl, by go_grown⟩
  case round =>
    obtain ⟨k, hk, rfl, hb⟩ := hrel
    by_cases hlt : k < rs.length
    · have hzb := hb.size
      obtain ⟨rfl, hblt, hL⟩ := ha k hlt
      obtain ⟨rfl, hblt', hL'⟩ := ha' k hlt
      obtain ⟨x, ⟨v1, v2⟩, hx, c0, c1, c2, c3, c4, hR, hbr⟩ := hL.at hblt hb hlt
      obtain ⟨x', ⟨u1, u2⟩, hx', c0', c1', c2', c3', c4', hR', hbr'⟩ := hL'.at hblt' hb hlt
      obtain rfl : x = x' := by rw [hx] at hx'; exact Option.some.inj hx'
      clear ha ha' hL hL' hx hx'
      dsimp only at c2 c4 c2' c4' hR hR'
      go_wp2_with fail
      go_region_held3 (fun w' => w'.cell? ⟨b, o + k * 5, none⟩ = some (.int .i64 x.k) ∧ w'.cell? ⟨b, o + k * 5 + 1, none⟩ = some (.string x.s) ∧ w'.cell? ⟨b, o + k * 5 + 2, none⟩ = some v1 ∧ w'.cell? ⟨b, o + k * 5 + 3, none⟩ = some (.string x.q) ∧ w'.cell? ⟨b, o + k * 5 + 4, none⟩ = some v2 ∧ w'.cell? ⟨b', o' + k * 5, none⟩ = some (.int .i64 x.k) ∧ w'.cell? ⟨b', o' + k * 5 + 1, none⟩ = some (.string x.s) ∧ w'.cell? ⟨b', o' + k * 5 + 2, none⟩ = some u1 ∧ w'.cell? ⟨b', o' + k * 5 + 3, none⟩ = some (.string x.q) ∧ w'.cell? ⟨b', o' + k * 5 + 4, none⟩ = some u2) (refine ⟨?_, ?_, ?_, ?_, ?_, ?_, ?_, ?_, ?_, ?_⟩ <;> first | (go_simp; done) | (exact cell_later (by assumption) (by go_simp))) (first | (go_at_call 56; refine (eqStep_same x v1 v2 u1 u2 _ (hR.below (by repeat (first | exact Below.refl _ _ | refine Below.drew ?_ | refine Below.alloc ?_ (by first | (simp; done) | (simp; omega) | omega) _ | refine Below.setCell ?_ (by first | (simp; done) | (simp; omega) | omega) _ | refine bstep (by assumption) (by first | (simp; done) | (simp; omega) | omega) ?_))) (hR'.below (by repeat (first | exact Below.refl _ _ | refine Below.drew ?_ | refine Below.alloc ?_ (by first | (simp; done) | (simp; omega) | omega) _ | refine Below.setCell ?_ (by first | (simp; done) | (simp; omega) | omega) _ | refine bstep (by assumption) (by first | (simp; done) | (simp; omega) | omega) ?_)))).mono ?_; rintro e w1 ⟨rfl, hb1⟩))
      go_wp2
      go_roundw
      case rel => exact ⟨k + 1, hlt, by simp, by repeat (first | exact Below.refl _ _ | refine Below.drew ?_ | refine Below.alloc ?_ (by first | (simp; done) | (simp; omega) | omega) _ | refine Below.setCell ?_ (by first | (simp; done) | (simp; omega) | omega) _ | refine bstep (by assumption) (by first | (simp; done) | (simp; omega) | omega) ?_)⟩
      case measure => simp [intOf]; omega
    · go_wp2
      go_returns
      exact ⟨rfl, hb⟩
end Go.Proofs.YtlobjpdkjlmglaaGreat
/- Own text. The contract of markText: it answers a text that hangs on the number alone. -/
namespace Go.Proofs.YtlobjpdkjlmglaaGreat
open Go.RowKit
set_option linter.unusedVariables false
/-- the digits of a number; none of 0. -/
def dg (u : Nat) : List Int := if h : u = 0 then [] else have : u / 10 < u := by omega
  dg (u / 10) ++ [((48 + u % 10 : Nat) : Int)]
theorem dg_step (u : Nat) (h : u ≠ 0) : dg u = dg (u / 10) ++ [((48 + u % 10 : Nat) : Int)] := by rw [dg, dif_neg h]
theorem dg_zero : dg 0 = [] := by rw [dg, dif_pos rfl]
theorem dg_len (u : Nat) : (dg u).length ≤ u := by
  induction u using Nat.strongRecOn with
  | _ u ih =>
    by_cases h : u = 0
    · subst h; rw [dg_zero]; simp
    · rw [dg_step u h, List.length_append]
      have := ih (u / 10) (by omega)
      simp only [List.length_cons, List.length_nil]
      omega
/-- the text of a mark. -/
def mt (u : Int) : ByteArray := ⟨#[109]⟩ ++ strOfNums (dg u.toNat)
theorem cat1 (x : Int) (l : List Int) : strOfNums [x] ++ strOfNums l = strOfNums (x :: l) := by
  apply ByteArray.ext
  rw [ByteArray.data_append]
  simp [strOfNums]
theorem Tryz.conv1 (w : World) (x : Int) (m : Nat × Nat) : (convert 22 9 (.slice (some ⟨w.heap.size, 0, none⟩) 1 1)).run Tryz.prog (w.alloc (.cells #[.int .u8 x] 5 m)) = .ok (.string (strOfNums [x])) (w.alloc (.cells #[.int .u8 x] 5 m)) := by
  refine run_convert_bytes_arg _ 22 5 Tryz.underlying22 Tryz.underlying5 w.heap.size 0 1 1 [x] rfl ?_ 9 Tryz.underlying9
  intro i hi
  obtain rfl : i = 0 := by omega
  have := heap_alloc_new w (.cells #[.int .u8 x] 5 m)
  show (w.alloc (.cells #[.int .u8 x] 5 m)).cell? ⟨w.heap.size, 0, none⟩ = some (.int .u8 x)
  simp only [World.cell?, this]
  rfl
set_option maxHeartbeats 1000000 in
set_option maxRecDepth 100000 in
theorem markText_any (u : Nat) (w : World) (h0 : u ≠ 0) (h1 : u ≤ 1000000000) :
    Calls Tryz.prog 57 #[.int .i64 u] w fun e w' => e = .returned (.string (mt u)) ∧ Below w.heap.size w w' := by
  have hneg : decide ((u : Int) ≤ 0) = false := by simp; omega
  have hU := dg_len u
  go_enter Tryz.func57, Tryz.ntmps57
  go_wp2
  go_loopw [0, 3] (fun m o wr => ∃ (v : Nat) (l : List Int), o = .string (strOfNums l) ∧ m = .int .i64 v ∧ v ≤ u ∧ dg v ++ l = dg u ∧ Below w.heap.size w wr) (fun m _ _ => (intOf m).toNat)
  case atStart => exact ⟨u, [], rfl, rfl, Nat.le_refl _, by simp, by go_grown⟩
  case round =>
    obtain ⟨v, l, rfl, rfl, hv, hl0, hb⟩ := hrel
    have hzb := hb.size
    have hll : (strOfNums l).size ≤ 1000000000 := by
      have := congrArg List.length hl0
      rw [List.length_append] at this
      simp [strOfNums, ByteArray.size]
      omega
    have hl : Hid (dg v ++ l = dg u) := hl0
    clear hl0
    by_cases hz : v = 0
    · subst hz
      have hfin : Hid ((⟨#[109]⟩ : ByteArray) ++ strOfNums l = mt u) := by show _ = _; rw [mt, Int.toNat_natCast, ← hl.out, dg_zero, List.nil_append]
      go_wp2
      go_returns
      exact ⟨by rw [← hfin.out]; rfl, hb⟩
    · have hvp : (0 : Int) < v := by omega
      have hst : Hid (dg (v / 10) ++ (((48 + v % 10 : Nat) : Int) :: l) = dg u) := by
        show _ = _
        rw [← hl.out, dg_step v hz, List.append_assoc]; rfl
      have hcv := Tryz.conv1 wr
      have hs1 : (strOfNums [48 + (v : Int) % 10]).size ≤ 1 := by simp [strOfNums, ByteArray.size]
      have hct : Hid (strOfNums [48 + (v : Int) % 10] ++ strOfNums l = strOfNums (((48 + v % 10 : Nat) : Int) :: l)) := cat1 _ l
      have hdv : Hid (v / 10 < v) := by show _ < _; omega
      go_wp2
      exact ⟨⟨v / 10, _, by rw [← hct.out], by go_num, by omega, hst.out, by repeat (first | (with_reducible exact Below.refl _ _) | (with_reducible refine Below.drew ?_) | (with_reducible refine Below.alloc ?_ ?hh _; case hh => first | (simp; done) | (simp; omega) | omega) | (with_reducible refine Below.setCell ?_ ?hh _; case hh => first | (simp; done) | (simp; omega) | omega) | refine bstep (by assumption) (by first | (simp; done) | (simp; omega) | omega) ?_)⟩, by have := hdv.out; simp [intOf]; omega⟩
end Go.Proofs.YtlobjpdkjlmglaaGreat
/- Own text. Lists of texts: markStringS, heldStringS. -/
namespace Go.Proofs.YtlobjpdkjlmglaaGreat
open Go.RowKit Go.Deep
set_option linter.unusedVariables false
theorem far_set {w : World} {b q q' : Nat} {x : Value} (h : q ≠ q') : (w.setCell ⟨b, q', none⟩ x).cell? ⟨b, q, none⟩ = w.cell? ⟨b, q, none⟩ :=
  World.cell?_setCell_other _ _ _ _ (by intro e; have := congrArg Addr.off e; simp at this; omega)
/-- numbers that are marked from k on, the first n of them. -/
def mSi (k n : Nat) (ns : List ByteArray) : List ByteArray := ns.mapIdx fun i x => if i < n then mt ((k + i : Nat) : Int) else x
theorem mSi_len (k n : Nat) (ns : List ByteArray) : (mSi k n ns).length = ns.length := by simp [mSi]
theorem mSi_at {k n i : Nat} {ns : List ByteArray} {x : ByteArray} (h : ns[i]? = some x) : (mSi k n ns)[i]? = some (if i < n then mt ((k + i : Nat) : Int) else x) := by simp [mSi, h]
theorem mSi_zero (k : Nat) (ns : List ByteArray) : mSi k 0 ns = ns := by
  apply List.ext_getElem?
  intro i
  cases h : ns[i]? with
  | none => have := List.getElem?_eq_none_iff.1 h; rw [List.getElem?_eq_none (by rw [mSi_len]; exact this)]
  | some x => rw [mSi_at h, if_neg (by omega)]
def mS (k : Nat) (ns : List ByteArray) : List ByteArray := mSi k ns.length ns
set_option maxHeartbeats 1000000 in
set_option maxRecDepth 100000 in
theorem markStringS_any (k : Nat) (v : Value) (ns : List ByteArray) (g : List Nat) (w : World) (hr : StrsF w v ns g) (hf : Free w g) (h0 : 0 < k) (h1 : k + ns.length ≤ 999999900) :
    Calls Tryz.prog 58 #[v, .int .i64 k] w fun e w' => e = .returned (.int .i64 ((k + ns.length : Nat) : Int)) ∧ StrsF w' v (mS k ns) g ∧ Chg g w w' := by
  obtain ⟨a, c, b, o, rfl, hl, hc, hg0, ha⟩ := hr.pick
  have hcm := hc
  unfold maxLen at hc
  clear hr
  go_enter Tryz.func58, Tryz.ntmps58
  go_wp2
  go_loopw [1, 5] (fun kk i wr => ∃ n : Nat, n ≤ ns.length ∧ i = .int .i64 n ∧ kk = .int .i64 ((k + n : Nat) : Int) ∧ (∀ i x, (mSi k n ns)[i]? = some x → wr.cell? ⟨b, o + i, none⟩ = some (.string x)) ∧ Chg g w wr) (fun _ i _ => ns.length - (intOf i).toNat)
  case atStart =>
    refine ⟨0, Nat.zero_le _, rfl, rfl, fun i x hx => ?_, Chg.refl _ _⟩
    rw [mSi_zero] at hx
    exact (ha i (List.getElem?_eq_some_iff.1 hx).1).2.2.2 i x hx
  case round =>
    obtain ⟨n, hn, rfl, rfl, hH, hch⟩ := hrel
    by_cases hlt : n < ns.length
    · obtain ⟨rfl, hblt, rfl, _⟩ := ha n hlt
      have hzb := hch.size
      have hbr : b < wr.heap.size := by omega
      have hfr : ∀ i, wr.frozen? ⟨b, i, none⟩ = false := hch.free hf b (by simp)
      obtain ⟨x, hx⟩ : ∃ x, ns[n]? = some x := ⟨ns[n], by simp [hlt]⟩
      have c0 := hH n _ (mSi_at hx)
      rw [if_neg (by omega)] at c0
      have e0 : ((k + n : Nat) : Int) = (k : Int) + (n : Int) := by omega
      have hM := fun w => markText_any (k + n) w (by omega) (by omega)
      rw [e0] at hM
      have hnI : (k : Int) + (n : Int) ≤ 999999900 := by omega
      have hnP : (0 : Int) < (k : Int) + (n : Int) := by omega
      go_wp2_with fail
      refine Calls.mono (hM _) ?_
      rintro e wA ⟨rfl, hbA⟩
      rw [← e0]
      have hzA := hbA.size
      have cA := ((bcell hbA).1 b _ hbr).trans c0
      have fA : ∀ i, wA.frozen? ⟨b, i, none⟩ = false := fun i => ((bcell hbA).2 b i hbr).trans (hfr i)
      have hbrA : b < wA.heap.size := by omega
      have hnew : ∀ i y, (mSi k (n + 1) ns)[i]? = some y → (wA.setCell ⟨b, o + n, none⟩ (.string (mt ((k + n : Nat) : Int)))).cell? ⟨b, o + i, none⟩ = some (.string y) := by
        intro i y hy
        have hi : i < ns.length := by have := (List.getElem?_eq_some_iff.1 hy).1; rwa [mSi_len] at this
        obtain ⟨z, hz⟩ : ∃ z, ns[i]? = some z := ⟨ns[i], by simp [hi]⟩
        rw [mSi_at hz] at hy
        have hy := (Option.some.inj hy).symm
        by_cases ei : i = n
        · subst ei
          rw [if_pos (by omega)] at hy
          subst hy
          exact World.cell?_setCell_same _ _ _ cA
        · rw [far_set (by omega), (bcell hbA).1 b _ hbr, hH i _ (mSi_at hz), hy]
          by_cases hin : i < n
          · rw [if_pos hin, if_pos (by omega)]
          · rw [if_neg hin, if_neg (by omega)]
      have hch2 : Chg [b] w (wA.setCell ⟨b, o + n, none⟩ (.string (mt ((k + n : Nat) : Int)))) := (hch.trans (Chg.of_below hbA (fun y hy => by rcases List.mem_singleton.1 hy with rfl; exact hbr))).setCell (p := ⟨b, _, none⟩) (by simp) _
      generalize mt ((k + n : Nat) : Int) = tx at *
      clear ha hH hch hf hM hbA c0 hfr
      go_wp2
      exact ⟨⟨n + 1, hlt, by simp, by congr 1, hnew, hch2⟩, by simp [intOf]; omega⟩
    · go_wp2
      go_returns
      obtain rfl : n = ns.length := by omega
      refine ⟨rfl, ⟨a, c, by rw [mS, mSi_len], by rw [mS, mSi_len]; exact hl, hcm, fun e => hg0 (by have := congrArg List.length e; rw [mS, mSi_len] at this; exact List.length_eq_zero_iff.1 this), fun hne => ?_⟩, hch⟩
      have hp : 0 < ns.length := by have := List.length_pos_iff.2 hne; rwa [mS, mSi_len] at this
      obtain ⟨e, hlt, hF, _⟩ := ha 0 hp
      exact ⟨b, o, e, by have := hch.size; omega, hF, hH⟩
set_option maxHeartbeats 1000000 in
set_option maxRecDepth 100000 in
theorem heldStringS_any (k : Nat) (v : Value) (ns : List ByteArray) (g : List Nat) (w : World) (hr : StrsF w v (mS k ns) g) (h0 : 0 < k) (h1 : k + ns.length ≤ 999999900) :
    Calls Tryz.prog 60 #[v, .int .i64 k] w fun e w' => e = .returned (.int .i64 ((k + ns.length : Nat) : Int)) ∧ Below w.heap.size w w' := by
  obtain ⟨a, c, b, o, rfl, hl, hc, _, ha⟩ := hr.pick
  have hln : (mS k ns).length = ns.length := mSi_len _ _ _
  rw [hln] at hl ha
  rw [hln]
  unfold maxLen at hc
  clear hr hln
  go_enter Tryz.func60, Tryz.ntmps60
  go_wp2
  go_loopw [1, 5] (fun kk i wr => ∃ n : Nat, n ≤ ns.length ∧ i = .int .i64 n ∧ kk = .int .i64 ((k + n : Nat) : Int) ∧ Below w.heap.size w wr) (fun _ i _ => ns.length - (intOf i).toNat)
  case atStart => exact ⟨0, Nat.zero_le _, rfl, rfl, by go_grown⟩
  case round =>
    obtain ⟨n, hn, rfl, rfl, hb⟩ := hrel
    by_cases hlt : n < ns.length
    · obtain ⟨rfl, hblt, _, hC⟩ := ha n hlt
      have hzb := hb.size
      obtain ⟨x, hx⟩ : ∃ x, ns[n]? = some x := ⟨ns[n], by simp [hlt]⟩
      have c0 := (hb.cell (p := ⟨b, _, none⟩) hblt).trans (hC n _ (mSi_at hx))
      rw [if_pos hlt] at c0
      have e0 : ((k + n : Nat) : Int) = (k : Int) + (n : Int) := by omega
      have hbr : b < wr.heap.size := by omega
      clear ha hC
      have hM := fun w => markText_any (k + n) w (by omega) (by omega)
      rw [e0] at hM c0
      have hnI : (k : Int) + (n : Int) ≤ 999999900 := by omega
      have hnP : (0 : Int) < (k : Int) + (n : Int) := by omega
      generalize mt ((k : Int) + (n : Int)) = tx at *
      go_wp2_with fail
      go_region_held3 (fun w' => w'.cell? ⟨b, o + n, none⟩ = some (.string tx)) (first | (go_simp; done) | (exact cell_later (by assumption) (by go_simp))) (first | (go_at_call 57; refine Calls.mono (hM _) ?_; rintro e wA ⟨rfl, hbA⟩; have hzA := hbA.size; have belA : Below wr.heap.size wr wA := (by repeat (first | (with_reducible exact Below.refl _ _) | (with_reducible refine Below.drew ?_) | (with_reducible refine Below.alloc ?_ ?hh _; case hh => first | (simp; done) | (simp; omega) | omega) | (with_reducible refine Below.setCell ?_ ?hh _; case hh => first | (simp; done) | (simp; omega) | omega) | refine bstep (by assumption) (by first | (simp; done) | (simp; omega) | omega) ?_))))
      have bel3 : Below w.heap.size w wA := hb.trans (belA.mono hzb)
      clear c0 hM hbA
      go_wp2_with fail
      exact ⟨⟨n + 1, hlt, by simp, by congr 1, bel3⟩, by simp [intOf]; omega⟩
    · go_wp2
      go_returns
      obtain rfl : n = ns.length := by omega
      exact ⟨rfl, hb⟩
end Go.Proofs.YtlobjpdkjlmglaaGreat
/- Own text. Rows and counted rows in memory, cell by cell, with their blocks. -/
namespace Go.Proofs.YtlobjpdkjlmglaaGreat
open Go.RowKit Go.Deep
set_option linter.unusedVariables false
theorem RowF.cells {w : World} {v : Value} {vs : List V3} {g : List Nat} (h : RowF w v vs g) :
    ∃ a c b o, v = .slice a vs.length c ∧ vs.length ≤ c ∧ c ≤ maxLen ∧ (a = none → c = 0) ∧ CellsAre w b o (vs.length * 3) (cf vs) ∧ (vs = [] → g = []) ∧ ∀ n, n < vs.length → a = some ⟨b, o, none⟩ ∧ b < w.heap.size ∧ g = [b] := by
  obtain ⟨a, c, rfl, hl, hc, hz, h0, h⟩ := h
  by_cases hne : vs = []
  · exact ⟨a, c, 0, 0, rfl, hl, hc, hz, by subst hne; intro j hj; simp at hj, h0, fun k hk => by rw [hne] at hk; simp at hk⟩
  · obtain ⟨b, o, rfl, hlt, hg, hL⟩ := h hne
    exact ⟨_, c, b, o, rfl, hl, hc, hz, lies_cells.1 hL, h0, fun _ _ => ⟨rfl, hlt, hg⟩⟩
theorem RowIs.shape' {w : World} {v : Value} {vs : List V3} (h : RowIs w v vs) : ∃ a c, v = .slice a vs.length c ∧ vs.length ≤ c ∧ c ≤ maxLen := by
  obtain ⟨a, c, h, h1, h2, _⟩ := h
  exact ⟨a, c, h, h1, h2⟩
theorem RowF.mk {w w' : World} {v : Value} {vs us : List V3} {g : List Nat} {a : Option Addr} {c b o : Nat} (hs : w.heap.size ≤ w'.heap.size) (hl : us.length = vs.length) (hv : v = .slice a vs.length c) (hlc : vs.length ≤ c) (hc : c ≤ maxLen) (hz : a = none → c = 0) (h0 : vs = [] → g = []) (ha : ∀ n, n < vs.length → a = some ⟨b, o, none⟩ ∧ b < w.heap.size ∧ g = [b])
    (hC : CellsAre w' b o (us.length * 3) (cf us)) : RowF w' v us g := by
  refine ⟨a, c, by rw [hl]; exact hv, by omega, hc, hz, fun e => h0 (by have := congrArg List.length e; rw [hl] at this; exact List.length_eq_zero_iff.1 this), fun hne => ?_⟩
  have hp : 0 < vs.length := by rw [← hl]; exact List.length_pos_iff.2 hne
  obtain ⟨e, hlt, hg⟩ := ha 0 hp
  exact ⟨b, o, e, by omega, hg, lies_cells.2 hC⟩
def CLF (w : World) (b o : Nat) (cs : List C2) (G : List (List Nat)) : Prop :=
  ∀ i x g, cs[i]? = some x → G[i]? = some g → ∃ u, w.cell? ⟨b, o + i * 2, none⟩ = some u ∧ RowF w u x.r g ∧ w.cell? ⟨b, o + i * 2 + 1, none⟩ = some (.int .i64 x.n)
theorem disj_of {b : Nat} {G : List (List Nat)} (h : (b :: G.flatten).Nodup) {i j : Nat} {g g' : List Nat} (hi : G[i]? = some g) (hj : G[j]? = some g') (hne : i ≠ j) : ∀ y ∈ g, y ∉ g' := by
  have h2 := (List.nodup_cons.1 h).2
  rw [List.Nodup, List.pairwise_flatten] at h2
  have h3 := List.pairwise_iff_getElem.1 h2.2
  obtain ⟨hi', rfl⟩ := List.getElem?_eq_some_iff.1 hi
  obtain ⟨hj', rfl⟩ := List.getElem?_eq_some_iff.1 hj
  intro y hy hy'
  rcases Nat.lt_or_gt_of_ne hne with hlt | hlt
  · exact h3 i j hi' hj' hlt y hy y hy' rfl
  · exact h3 j i hj' hi' hlt y hy' y hy rfl
theorem head_out {b : Nat} {G : List (List Nat)} (h : (b :: G.flatten).Nodup) {i : Nat} {g : List Nat} (hi : G[i]? = some g) : b ∉ g := fun hb =>
  (List.nodup_cons.1 h).1 (List.mem_flatten.2 ⟨g, List.mem_of_getElem? hi, hb⟩)
theorem RowsF.pick {w : World} {v : Value} {cs : List C2} {F : List Nat} (h : RowsF w v cs F) :
    ∃ a c b o G, v = .slice a cs.length c ∧ cs.length ≤ c ∧ c ≤ maxLen ∧ (a = none → c = 0) ∧ G.length = cs.length ∧ (cs = [] → F = []) ∧ CLF w b o cs G ∧ ∀ n, n < cs.length → a = some ⟨b, o, none⟩ ∧ b < w.heap.size ∧ F = b :: G.flatten := by
  obtain ⟨a, c, G, rfl, hl, hc, hz, hG, h0, h⟩ := h
  by_cases hne : cs = []
  · exact ⟨a, c, 0, 0, G, rfl, hl, hc, hz, hG, h0, fun i x g hx => by rw [hne] at hx; simp at hx, fun k hk => by rw [hne] at hk; simp at hk⟩
  · obtain ⟨b, o, rfl, hlt, hF, hL⟩ := h hne
    exact ⟨_, c, b, o, G, rfl, hl, hc, hz, hG, h0, hL, fun _ _ => ⟨rfl, hlt, hF⟩⟩
end Go.Proofs.YtlobjpdkjlmglaaGreat
/- Own text. The contracts of markValueS and heldValueS: a row that is written over with marks, and that has them still. -/
namespace Go.Proofs.YtlobjpdkjlmglaaGreat
open Go.RowKit Go.Deep
set_option linter.unusedVariables false
/-- the values of a row that is marked from k on. -/
def mV (k : Nat) (vs : List V3) : List V3 := vs.mapIdx fun j _ => ⟨((k + 3 * j : Nat) : Int), ((k + 3 * j + 1 : Nat) : Int), mt ((k + 3 * j + 2 : Nat) : Int)⟩
theorem mV_len (k : Nat) (vs : List V3) : (mV k vs).length = vs.length := by simp [mV]
theorem mV_at {k i : Nat} {vs : List V3} (hi : i < vs.length) : (mV k vs)[i]? = some ⟨((k + 3 * i : Nat) : Int), ((k + 3 * i + 1 : Nat) : Int), mt ((k + 3 * i + 2 : Nat) : Int)⟩ := by
  simp [mV, hi]
/-- a row whose first i values are marked. -/
def half (k i : Nat) (vs : List V3) (j : Nat) : Value := if j < i * 3 then cf (mV k vs) j else cf vs j
theorem half_step {w w2 : World} {b o k i : Nat} {vs : List V3} (hi : i < vs.length) (h : CellsAre w b o (vs.length * 3) (half k i vs))
    (h2 : w2.heap[b]? = ((w.setCell ⟨b, o + i * 3, none⟩ (.int .i64 ((k + 3 * i : Nat) : Int))).setCell ⟨b, o + i * 3 + 1, none⟩ (.int .i64 ((k + 3 * i + 1 : Nat) : Int))).heap[b]?) :
    CellsAre (w2.setCell ⟨b, o + i * 3 + 2, none⟩ (.string (mt ((k + 3 * i + 2 : Nat) : Int)))) b o (vs.length * 3) (half k (i + 1) vs) := by
  have h1 := (h.put (j0 := i * 3) (by omega) rfl (.int .i64 ((k + 3 * i : Nat) : Int))).put (j0 := i * 3 + 1) (q := o + i * 3 + 1) (by omega) (by omega) (.int .i64 ((k + 3 * i + 1 : Nat) : Int))
  refine ((h1.keep h2).put (j0 := i * 3 + 2) (q := o + i * 3 + 2) (by omega) (by omega) _).congr fun j hj => ?_
  obtain ⟨e0, e1, e2⟩ := cf_at (mV_at (k := k) hi)
  unfold half
  by_cases a2 : j = i * 3 + 2
  · subst a2; rw [if_pos rfl, if_pos (by omega), e2]
  by_cases a1 : j = i * 3 + 1
  · subst a1; rw [if_neg a2, if_pos rfl, if_pos (by omega), e1]
  by_cases a0 : j = i * 3
  · subst a0; rw [if_neg a2, if_neg a1, if_pos rfl, if_pos (by omega), e0]
  rw [if_neg a2, if_neg a1, if_neg a0]
  by_cases hlt : j < i * 3
  · rw [if_pos hlt, if_pos (by omega)]
  · rw [if_neg hlt, if_neg (by omega)]
set_option maxHeartbeats 2000000 in
set_option maxRecDepth 100000 in
theorem markValueS_any (k : Nat) (v : Value) (vs : List V3) (g : List Nat) (w : World) (hr : RowF w v vs g) (hf : Free w g) (h0 : 0 < k) (h1 : k + 3 * vs.length ≤ 999999990) :
    Calls Tryz.prog 122 #[v, .int .i64 k] w fun e w' => e = .returned (.int .i64 ((k + 3 * vs.length : Nat) : Int)) ∧ RowF w' v (mV k vs) g ∧ Chg g w w' := by
  obtain ⟨a, c, b, o, rfl, hl, hc, hz, hC, hg0, ha⟩ := hr.cells
  have hlt0 := hr.lt
  have hcm := hc
  unfold maxLen at hc
  clear hr
  go_enter Tryz.func122, Tryz.ntmps122
  go_wp2
  go_loopw [1, 5] (fun kk i wr => ∃ n : Nat, n ≤ vs.length ∧ i = .int .i64 n ∧ kk = .int .i64 ((k + 3 * n : Nat) : Int) ∧ CellsAre wr b o (vs.length * 3) (half k n vs) ∧ Chg g w wr) (fun _ i _ => vs.length - (intOf i).toNat)
  case atStart => exact ⟨0, Nat.zero_le _, rfl, rfl, hC.congr (fun j hj => by unfold half; rw [if_neg (by omega)]), Chg.refl _ _⟩
  case round =>
    obtain ⟨n, hn, rfl, rfl, hH, hch⟩ := hrel
    by_cases hlt : n < vs.length
    · obtain ⟨rfl, hblt, rfl⟩ := ha n hlt
      have hzb := hch.size
      have hbr : b < wr.heap.size := by omega
      have hfr : ∀ i, wr.frozen? ⟨b, i, none⟩ = false := hch.free hf b (by simp)
      have c0 : wr.cell? ⟨b, o + n * 3, none⟩ = some (half k n vs (n * 3)) := hH _ (by omega)
      have c1 : wr.cell? ⟨b, o + n * 3 + 1, none⟩ = some (half k n vs (n * 3 + 1)) := hH (n * 3 + 1) (by omega)
      have c2 : wr.cell? ⟨b, o + n * 3 + 2, none⟩ = some (half k n vs (n * 3 + 2)) := hH (n * 3 + 2) (by omega)
      generalize half k n vs (n * 3) = y0 at c0
      generalize half k n vs (n * 3 + 1) = y1 at c1
      generalize half k n vs (n * 3 + 2) = y2 at c2
      clear ha hC
      have e0 : ((k + 3 * n : Nat) : Int) = (k : Int) + 3 * (n : Int) := by omega
      have e1 : ((k + 3 * n + 1 : Nat) : Int) = (k : Int) + 3 * (n : Int) + 1 := by omega
      have e2 : ((k + 3 * n + 2 : Nat) : Int) = (k : Int) + 3 * (n : Int) + 1 + 1 := by omega
      have hM := fun w => markText_any (k + 3 * n + 2) w (by omega) (by omega)
      have hS := fun w2 => half_step (w2 := w2) hlt hH
      rw [e2] at hM
      simp only [e0, e1, e2] at hS
      clear e0 e1 e2 hH
      go_wp2_with fail
      refine Calls.mono (hM _) ?_
      rintro x w2 ⟨rfl, hb2⟩
      have hz2 := hb2.size
      simp only [World.size_setCell] at hz2
      have hS2 := hS w2 (hb2.block b (by simpa using hbr))
      have q2 : w2.cell? ⟨b, o + n * 3 + 2, none⟩ = some y2 := cell_later hb2 (by go_simp)
      have hfr2 : ∀ i, w2.frozen? ⟨b, i, none⟩ = false := fun i => ((bcell hb2).2 b i (by simpa using hbr)).trans (by simpa using hfr i)
      have hch2 : Chg [b] w w2 := ((hch.setCell (p := ⟨b, _, none⟩) (by simp) _).setCell (p := ⟨b, _, none⟩) (by simp) _).trans (Chg.of_below hb2 (by simpa using hbr))
      clear hS hM hb2 hch hf hfr c0 c1 c2
      go_wp2
      exact ⟨⟨n + 1, hlt, by simp, by congr 1, hS2, hch2.setCell (p := ⟨b, _, none⟩) (by simp) _⟩, by simp [intOf]; omega⟩
    · go_wp2
      go_returns
      obtain rfl : n = vs.length := by omega
      refine ⟨rfl, RowF.mk hch.size (mV_len k vs) rfl hl hcm hz hg0 ha ?_, hch⟩
      rw [mV_len]
      exact hH.congr fun j hj => by unfold half; rw [if_pos hj]
set_option maxHeartbeats 2000000 in
set_option maxRecDepth 100000 in
theorem heldValueS_any (k : Nat) (v : Value) (vs : List V3) (w : World) (hr : RowIs w v (mV k vs)) (h0 : 0 < k) (h1 : k + 3 * vs.length ≤ 999999990) :
    Calls Tryz.prog 123 #[v, .int .i64 k] w fun e w' => e = .returned (.int .i64 ((k + 3 * vs.length : Nat) : Int)) ∧ Below w.heap.size w w' := by
  obtain ⟨a, c, b, o, rfl, hl, hc, ha⟩ := hr.pick
  rw [mV_len] at hl ha
  rw [mV_len]
  unfold maxLen at hc
  clear hr
  go_enter Tryz.func123, Tryz.ntmps123
  go_wp2
  go_loopw [1, 5] (fun kk i wr => ∃ n : Nat, n ≤ vs.length ∧ i = .int .i64 n ∧ kk = .int .i64 ((k + 3 * n : Nat) : Int) ∧ Below w.heap.size w wr) (fun _ i _ => vs.length - (intOf i).toNat)
  case atStart => exact ⟨0, Nat.zero_le _, rfl, rfl, by go_grown⟩
  case round =>
    obtain ⟨n, hn, rfl, rfl, hb⟩ := hrel
    by_cases hlt : n < vs.length
    · obtain ⟨rfl, hblt, hL⟩ := ha n hlt
      have hzb := hb.size
      have hbr : b < wr.heap.size := by omega
      obtain ⟨c0, c1, c2⟩ := hL.below hb hblt n _ (mV_at hlt)
      have e0 : ((k + 3 * n : Nat) : Int) = (k : Int) + 3 * (n : Int) := by omega
      have e1 : ((k + 3 * n + 1 : Nat) : Int) = (k : Int) + 3 * (n : Int) + 1 := by omega
      have e2 : ((k + 3 * n + 2 : Nat) : Int) = (k : Int) + 3 * (n : Int) + 1 + 1 := by omega
      have hM := fun w => markText_any (k + 3 * n + 2) w (by omega) (by omega)
      rw [e2] at hM c2
      rw [e0] at c0
      rw [e1] at c1
      clear e0 e1 e2 ha hL
      go_wp2_with fail
      go_region_with (first | (go_at_call 57; refine (hM _).mono ?_; rintro x w2 ⟨rfl, hb2⟩; have hz2 := hb2.size; (try simp at hz2); have q2 : w2.cell? ⟨b, o + n * 3 + 2, none⟩ = some (.string (mt ((k : Int) + 3 * (n : Int) + 1 + 1))) := cell_later hb2 (by go_simp)))
      all_goals go_wp2
      all_goals exact ⟨⟨n + 1, hlt, by simp, by congr 1, by repeat (first | (with_reducible exact Below.refl _ _) | (with_reducible refine Below.drew ?_) | (with_reducible refine Below.alloc ?_ ?hh _; case hh => first | (simp; done) | (simp; omega) | omega) | (with_reducible refine Below.setCell ?_ ?hh _; case hh => first | (simp; done) | (simp; omega) | omega) | refine bstep (by assumption) (by first | (simp; done) | (simp; omega) | omega) ?_)⟩, by simp [intOf]; omega⟩
    · go_wp2
      go_returns
      obtain rfl : n = vs.length := by omega
      exact ⟨rfl, hb⟩
end Go.Proofs.YtlobjpdkjlmglaaGreat
/- Own text. The contracts of markBag and heldBag: a bag that is written over with marks, and that has them still. -/
namespace Go.Proofs.YtlobjpdkjlmglaaGreat
open Go.RowKit Go.Deep
set_option linter.unusedVariables false
/-- the mark that row i of counted rows begins with. -/
def offC (k : Nat) (cs : List C2) (i : Nat) : Nat := k + ((cs.take i).map fun x => 3 * x.r.length + 1).sum
theorem offC_zero (k : Nat) (cs : List C2) : offC k cs 0 = k := by simp [offC]
theorem offC_succ {k i : Nat} {cs : List C2} {x : C2} (h : cs[i]? = some x) : offC k cs (i + 1) = offC k cs i + (3 * x.r.length + 1) := by
  obtain ⟨hk, rfl⟩ := List.getElem?_eq_some_iff.1 h
  unfold offC
  rw [List.take_succ_eq_append_getElem hk, List.map_append, List.sum_append]
  simp only [List.map_cons, List.map_nil, List.sum_cons, List.sum_nil]
  omega
theorem sum_le (l : List C2) : (l.map fun x => 3 * x.r.length + 1).sum ≤ 3 * wtb l := by
  unfold wtb wtcs
  induction l with
  | nil => simp
  | cons x xs ih =>
    simp only [List.map_cons, List.sum_cons, List.length_cons] at ih ⊢
    unfold wt at ih ⊢
    omega
theorem offC_le (k : Nat) (cs : List C2) : ∀ i, offC k cs i ≤ k + 3 * wtb cs := by
  intro i
  have h1 := sum_le cs
  have h2 : ((cs.take i).map fun x => 3 * x.r.length + 1).sum ≤ (cs.map fun x => 3 * x.r.length + 1).sum := by
    conv => rhs; rw [← List.take_append_drop i cs]
    rw [List.map_append, List.sum_append]
    omega
  unfold offC
  omega
/-- counted rows of which the first n are marked. -/
def mCi (k n : Nat) (cs : List C2) : List C2 := cs.mapIdx fun i x => if i < n then ⟨mV (offC k cs i) x.r, ((offC k cs i + 3 * x.r.length : Nat) : Int)⟩ else x
theorem mCi_len (k n : Nat) (cs : List C2) : (mCi k n cs).length = cs.length := by simp [mCi]
theorem mCi_at {k n i : Nat} {cs : List C2} {x : C2} (h : cs[i]? = some x) : (mCi k n cs)[i]? = some (if i < n then ⟨mV (offC k cs i) x.r, ((offC k cs i + 3 * x.r.length : Nat) : Int)⟩ else x) := by
  simp [mCi, h]
theorem mCi_zero (k : Nat) (cs : List C2) : mCi k 0 cs = cs := by
  apply List.ext_getElem?
  intro i
  cases h : cs[i]? with
  | none => have := List.getElem?_eq_none_iff.1 h; rw [List.getElem?_eq_none (by rw [mCi_len]; exact this)]
  | some x => rw [mCi_at h, if_neg (by omega)]
theorem CLF.step {w w2 : World} {b o k n : Nat} {cs : List C2} {G : List (List Nat)} {x : C2} {g : List Nat} {u : Value} (h : CLF w b o (mCi k n cs) G) (hG : G.length = cs.length) (hnd : (b :: G.flatten).Nodup) (hb : b < w.heap.size) (hx : cs[n]? = some x) (hg : G[n]? = some g)
    (hu : w.cell? ⟨b, o + n * 2, none⟩ = some u) (hR : RowF w2 u (mV (offC k cs n) x.r) g) (hc : Chg g w w2) :
    CLF (w2.setCell ⟨b, o + n * 2 + 1, none⟩ (.int .i64 ((offC k cs n + 3 * x.r.length : Nat) : Int))) b o (mCi k (n + 1) cs) G := by
  have hbb : w2.heap[b]? = w.heap[b]? := hc.block b hb (head_out hnd hg)
  intro i y g' hy hg'
  have hi : i < cs.length := by have := (List.getElem?_eq_some_iff.1 hy).1; rwa [mCi_len] at this
  obtain ⟨z, hz⟩ : ∃ z, cs[i]? = some z := ⟨cs[i], by simp [hi]⟩
  rw [mCi_at hz] at hy
  have hy := (Option.some.inj hy).symm
  obtain ⟨u', a0, a1, a2⟩ := h i _ g' (mCi_at hz) hg'
  have hgb : b ∉ g' := head_out hnd hg'
  by_cases e : i = n
  · subst e
    obtain rfl : z = x := by rw [hx] at hz; exact (Option.some.inj hz).symm
    obtain rfl : g' = g := by rw [hg] at hg'; exact (Option.some.inj hg').symm
    obtain rfl : u' = u := by rw [hu] at a0; exact (Option.some.inj a0).symm
    rw [if_pos (by omega)] at hy
    subst hy
    refine ⟨u', ?_, hR.keep (by simp) (fun c hc => Below.heap_setCell _ _ _ _ (by rintro rfl; exact hgb hc)), ?_⟩
    · rw [World.cell?_setCell_other _ _ _ _ (by intro q; have := congrArg Addr.off q; simp at this)]
      exact (cell_blk hbb).trans hu
    · exact World.cell?_setCell_same _ _ _ ((cell_blk hbb).trans a2)
  · have ey : y = if i < n then ⟨mV (offC k cs i) z.r, ((offC k cs i + 3 * z.r.length : Nat) : Int)⟩ else z := by
      rw [hy]
      by_cases hin : i < n
      · rw [if_pos hin, if_pos (by omega)]
      · rw [if_neg hin, if_neg (by omega)]
    rw [← ey] at a1 a2
    have hd := disj_of hnd hg' hg e
    have k1 : RowF w2 u' y.r g' := a1.keep hc.size fun c hcg => hc.block c (a1.lt c hcg) (hd c hcg)
    refine ⟨u', ?_, k1.keep (by simp) (fun c hc => Below.heap_setCell _ _ _ _ (by rintro rfl; exact hgb hc)), ?_⟩
    · rw [World.cell?_setCell_other _ _ _ _ (by intro q; have := congrArg Addr.off q; simp at this; omega)]
      exact (cell_blk hbb).trans a0
    · rw [World.cell?_setCell_other _ _ _ _ (by intro q; have := congrArg Addr.off q; simp at this; omega)]
      exact (cell_blk hbb).trans a2
/-- counted rows that are marked from k on. -/
def mC (k : Nat) (cs : List C2) : List C2 := mCi k cs.length cs
set_option maxHeartbeats 2000000 in
set_option maxRecDepth 100000 in
theorem markCountedS_any (k : Nat) (v : Value) (cs : List C2) (F : List Nat) (w : World) (hr : RowsF w v cs F) (hnd : F.Nodup) (hf : Free w F) (h0 : 0 < k) (h1 : k + 3 * wtb cs ≤ 999999900) :
    Calls Tryz.prog 93 #[v, .int .i64 k] w fun e w' => e = .returned (.int .i64 ((offC k cs cs.length : Nat) : Int)) ∧ RowsF w' v (mC k cs) F ∧ Chg F w w' := by
  obtain ⟨a, c, b, o, G, rfl, hl, hc, hzz, hG, hF0, hC, ha⟩ := hr.pick
  have hlt0 := hr.lt
  have hcm := hc
  unfold maxLen at hc
  clear hr
  have hoff := offC_le k cs
  go_enter Tryz.func93, Tryz.ntmps93
  go_wp2
  go_loopw [1, 5] (fun kk i wr => ∃ n : Nat, n ≤ cs.length ∧ i = .int .i64 n ∧ kk = .int .i64 ((offC k cs n : Nat) : Int) ∧ CLF wr b o (mCi k n cs) G ∧ Chg F w wr) (fun _ i _ => cs.length - (intOf i).toNat)
  case atStart => exact ⟨0, Nat.zero_le _, rfl, by rw [offC_zero], by rw [mCi_zero]; exact hC, Chg.refl _ _⟩
  case round =>
    obtain ⟨n, hn, rfl, rfl, hH, hch⟩ := hrel
    by_cases hlt : n < cs.length
    · obtain ⟨rfl, hblt, rfl⟩ := ha n hlt
      have hzb := hch.size
      have hbr : b < wr.heap.size := by omega
      have hlt' : n < G.length := by omega
      obtain ⟨x, hx⟩ : ∃ x, cs[n]? = some x := ⟨cs[n], by simp [hlt]⟩
      obtain ⟨g, hg⟩ : ∃ g, G[n]? = some g := ⟨G[n], by simp [hlt']⟩
      obtain ⟨u, c0, hR, c1⟩ := hH n _ g (mCi_at hx) hg
      rw [if_neg (by omega)] at hR c1
      have hgF : ∀ y ∈ g, y ∈ b :: G.flatten := fun y hy => List.mem_cons_of_mem _ (List.mem_flatten.2 ⟨g, List.mem_of_getElem? hg, hy⟩)
      have hfr := hch.free hf
      have hfr0 : ∀ i, wr.frozen? ⟨b, i, none⟩ = false := hfr b (by simp)
      have hgf : Free wr g := fun y hy => hfr y (hgF y hy)
      have hs := offC_succ (k := k) hx
      have ho1 := hoff n
      have ho2 := hoff (n + 1)
      have HS : Hid (offC k cs (n + 1) = offC k cs n + (3 * x.r.length + 1)) := hs
      have hko : 0 < offC k cs n := by unfold offC; omega
      have hb1 : offC k cs n + 3 * x.r.length ≤ 999999990 := by omega
      have hkn := fun w2 => CLF.step (w2 := w2) hH hG hnd hbr hx hg c0
      generalize offC k cs n = t at *
      obtain ⟨au, cu, rfl, _, _⟩ := hR.is.shape'
      clear hs hoff ha hC hf
      go_wp2_with fail
      refine Calls.mono (markValueS_any t _ x.r g wr hR hgf hko hb1) ?_
      rintro e w2 ⟨rfl, hR2, hc2⟩
      have hz2 := hc2.size
      have hbb : w2.heap[b]? = wr.heap[b]? := hc2.block b hbr (head_out hnd hg)
      have q1 : w2.cell? ⟨b, o + n * 2 + 1, none⟩ = some (.int .i64 x.n) := (cell_blk hbb).trans c1
      have hfr2 : ∀ i, w2.frozen? ⟨b, i, none⟩ = false := fun i => (frozen_blk hbb).trans (hfr0 i)
      have hS2 := hkn w2 hR2 hc2
      have hch2 : Chg (b :: G.flatten) w w2 := hch.trans (hc2.wide hgF fun y hy _ => by have := hlt0 y hy; omega)
      clear hkn hc2 hR2 hch hfr hfr0 hgf c0 c1 hR hbb hH
      have e1 : ((t + 3 * x.r.length : Nat) : Int) = (t : Int) + 3 * (x.r.length : Int) := by omega
      rw [e1] at hS2
      clear e1
      go_wp2
      exact ⟨⟨n + 1, hlt, by simp, by rw [HS.out]; congr 1, hS2, hch2.setCell (p := ⟨b, _, none⟩) (by simp) _⟩, by simp [intOf]; omega⟩
    · go_wp2
      go_returns
      obtain rfl : n = cs.length := by omega
      refine ⟨rfl, ⟨a, c, G, by rw [mC, mCi_len], by rw [mC, mCi_len]; exact hl, hcm, hzz, by rw [mC, mCi_len]; exact hG, fun e => hF0 (by have := congrArg List.length e; rw [mC, mCi_len] at this; exact List.length_eq_zero_iff.1 this), fun hne => ?_⟩, hch⟩
      have hp : 0 < cs.length := by have := List.length_pos_iff.2 hne; rwa [mC, mCi_len] at this
      obtain ⟨e, hlt, hF⟩ := ha 0 hp
      exact ⟨b, o, e, by have := hch.size; omega, hF, hH⟩
set_option maxHeartbeats 2000000 in
set_option maxRecDepth 100000 in
theorem heldCountedS_any (k : Nat) (v : Value) (cs : List C2) (w : World) (hr : RowsIs w v (mC k cs)) (h0 : 0 < k) (h1 : k + 3 * wtb cs ≤ 999999900) :
    Calls Tryz.prog 94 #[v, .int .i64 k] w fun e w' => e = .returned (.int .i64 ((offC k cs cs.length : Nat) : Int)) ∧ Below w.heap.size w w' := by
  obtain ⟨a, c, b, o, rfl, hl, hc, ha⟩ := hr.pick
  have hln : (mC k cs).length = cs.length := mCi_len _ _ _
  rw [hln] at hl ha
  rw [hln]
  unfold maxLen at hc
  clear hr hln
  have hoff := offC_le k cs
  go_enter Tryz.func94, Tryz.ntmps94
  go_wp2
  go_loopw [1, 5] (fun kk i wr => ∃ n : Nat, n ≤ cs.length ∧ i = .int .i64 n ∧ kk = .int .i64 ((offC k cs n : Nat) : Int) ∧ Below w.heap.size w wr) (fun _ i _ => cs.length - (intOf i).toNat)
  case atStart => exact ⟨0, Nat.zero_le _, rfl, by rw [offC_zero], by go_grown⟩
  case round =>
    obtain ⟨n, hn, rfl, rfl, hb⟩ := hrel
    by_cases hlt : n < cs.length
    · obtain ⟨rfl, hblt, hL⟩ := ha n hlt
      have hzb := hb.size
      have hbr : b < wr.heap.size := by omega
      obtain ⟨x, hx⟩ : ∃ x, cs[n]? = some x := ⟨cs[n], by simp [hlt]⟩
      obtain ⟨u, c0, hR, c1⟩ := hL.below hb hblt n _ (mCi_at hx)
      rw [if_pos hlt] at hR c1
      have hs := offC_succ (k := k) hx
      have ho1 := hoff n
      have ho2 := hoff (n + 1)
      have HS : Hid (offC k cs (n + 1) = offC k cs n + (3 * x.r.length + 1)) := hs
      have hko : 0 < offC k cs n := by unfold offC; omega
      have hb1 : offC k cs n + 3 * x.r.length ≤ 999999990 := by omega
      generalize offC k cs n = t at *
      have e1 : ((t + 3 * x.r.length : Nat) : Int) = (t : Int) + 3 * (x.r.length : Int) := by omega
      obtain ⟨au, lu, cu, rfl⟩ := hR.shape
      clear hs hoff ha hL hx
      go_wp2_with fail
      refine Calls.mono (heldValueS_any t _ x.r wr hR hko hb1) ?_
      rintro e w2 ⟨rfl, hb2⟩
      have hz2 := hb2.size
      have q1 : w2.cell? ⟨b, o + n * 2 + 1, none⟩ = some (.int .i64 ((t + 3 * x.r.length : Nat) : Int)) := (hb2.cell (p := ⟨b, _, none⟩) hbr).trans c1
      rw [e1] at q1
      clear e1 c0 c1
      go_wp2
      exact ⟨⟨n + 1, hlt, by simp, by rw [HS.out]; congr 1, by repeat (first | (with_reducible exact Below.refl _ _) | (with_reducible refine Below.drew ?_) | (with_reducible refine Below.alloc ?_ ?hh _; case hh => first | (simp; done) | (simp; omega) | omega) | (with_reducible refine Below.setCell ?_ ?hh _; case hh => first | (simp; done) | (simp; omega) | omega) | refine bstep (by assumption) (by first | (simp; done) | (simp; omega) | omega) ?_)⟩, by simp [intOf]; omega⟩
    · go_wp2
      go_returns
      obtain rfl : n = cs.length := by omega
      exact ⟨rfl, hb⟩
end Go.Proofs.YtlobjpdkjlmglaaGreat
/- Own text. The contracts of markRelS and heldRelS: relations that are written over with marks, and that have them still. -/
namespace Go.Proofs.YtlobjpdkjlmglaaGreat
open Go.RowKit Go.Deep
set_option linter.unusedVariables false
/-- how many marks counted rows take. -/
def sC (cs : List C2) : Nat := (cs.map fun x => 3 * x.r.length + 1).sum
theorem offC_all (k : Nat) (cs : List C2) : offC k cs cs.length = k + sC cs := by unfold offC sC; rw [List.take_length]
theorem sC_le (cs : List C2) : sC cs ≤ 3 * wtb cs := sum_le cs
/-- the mark that relation i begins with. -/
def offR (k : Nat) (rs : List R3) (i : Nat) : Nat := k + ((rs.take i).map fun x => 2 + sC x.cs).sum
theorem offR_zero (k : Nat) (rs : List R3) : offR k rs 0 = k := by simp [offR]
theorem offR_succ {k i : Nat} {rs : List R3} {x : R3} (h : rs[i]? = some x) : offR k rs (i + 1) = offR k rs i + (2 + sC x.cs) := by
  obtain ⟨hk, rfl⟩ := List.getElem?_eq_some_iff.1 h
  unfold offR
  rw [List.take_succ_eq_append_getElem hk, List.map_append, List.sum_append]
  simp only [List.map_cons, List.map_nil, List.sum_cons, List.sum_nil]
  omega
theorem sumR_le (l : List R3) : (l.map fun x => 2 + sC x.cs).sum ≤ 3 * wtR l := by
  unfold wtR wtrs
  induction l with
  | nil => simp
  | cons x xs ih =>
    simp only [List.map_cons, List.sum_cons, List.length_cons] at ih ⊢
    have := sC_le x.cs
    unfold wtr at ih ⊢
    omega
theorem offR_le (k : Nat) (rs : List R3) : ∀ i, offR k rs i ≤ k + 3 * wtR rs := by
  intro i
  have h1 := sumR_le rs
  have h2 : ((rs.take i).map fun x => 2 + sC x.cs).sum ≤ (rs.map fun x => 2 + sC x.cs).sum := by
    conv => rhs; rw [← List.take_append_drop i rs]
    rw [List.map_append, List.sum_append]
    omega
  unfold offR
  omega
/-- relations of which the first n are marked. -/
def mRi (k n : Nat) (rs : List R3) : List R3 := rs.mapIdx fun i x => if i < n then ⟨mt ((offR k rs i : Nat) : Int), ((offR k rs i : Nat) : Int) + 1, mC (offR k rs i + 2) x.cs⟩ else x
theorem mRi_len (k n : Nat) (rs : List R3) : (mRi k n rs).length = rs.length := by simp [mRi]
theorem mRi_at {k n i : Nat} {rs : List R3} {x : R3} (h : rs[i]? = some x) : (mRi k n rs)[i]? = some (if i < n then ⟨mt ((offR k rs i : Nat) : Int), ((offR k rs i : Nat) : Int) + 1, mC (offR k rs i + 2) x.cs⟩ else x) := by
  simp [mRi, h]
theorem mRi_zero (k : Nat) (rs : List R3) : mRi k 0 rs = rs := by
  apply List.ext_getElem?
  intro i
  cases h : rs[i]? with
  | none => have := List.getElem?_eq_none_iff.1 h; rw [List.getElem?_eq_none (by rw [mRi_len]; exact this)]
  | some x => rw [mRi_at h, if_neg (by omega)]
theorem RLF.step {w w1 w3 : World} {b o k n : Nat} {rs : List R3} {G : List (List Nat)} {x : R3} {g : List Nat} {u : Value} (h : RLF w b o (mRi k n rs) G) (hnd : (b :: G.flatten).Nodup) (hb : b < w.heap.size) (hx : rs[n]? = some x) (hg : G[n]? = some g)
    (hu : w.cell? ⟨b, o + n * 3 + 2, none⟩ = some u) (h1 : Below w.heap.size w w1)
    (hR : RowsF w3 u (mC (offR k rs n + 2) x.cs) g) (hc : Chg g ((w1.setCell ⟨b, o + n * 3, none⟩ (.string (mt ((offR k rs n : Nat) : Int)))).setCell ⟨b, o + n * 3 + 1, none⟩ (.int .i64 (((offR k rs n : Nat) : Int) + 1))) w3) :
    RLF w3 b o (mRi k (n + 1) rs) G := by
  have hb1 : b < w1.heap.size := Nat.lt_of_lt_of_le hb h1.size
  have hcell : ∀ q, w3.cell? ⟨b, q, none⟩ = ((w1.setCell ⟨b, o + n * 3, none⟩ (.string (mt ((offR k rs n : Nat) : Int)))).setCell ⟨b, o + n * 3 + 1, none⟩ (.int .i64 (((offR k rs n : Nat) : Int) + 1))).cell? ⟨b, q, none⟩ := fun q => cell_blk (hc.block b (by simpa using hb1) (head_out hnd hg))
  have hw1 : ∀ q, w1.cell? ⟨b, q, none⟩ = w.cell? ⟨b, q, none⟩ := fun q => cell_blk (h1.block b hb)
  have hs13 : w.heap.size ≤ w3.heap.size := Nat.le_trans h1.size (by have := hc.size; simpa using this)
  have hblk : ∀ c, c < w.heap.size → c ≠ b → c ∉ g → w3.heap[c]? = w.heap[c]? := fun c hcw hcb hcg => by
    rw [hc.block c (by have := h1.size; simp; omega) hcg, Below.heap_setCell _ _ _ _ hcb, Below.heap_setCell _ _ _ _ hcb]
    exact h1.block c hcw
  intro i y g' hy hg'
  have hi : i < rs.length := by have := (List.getElem?_eq_some_iff.1 hy).1; rwa [mRi_len] at this
  obtain ⟨z, hz⟩ : ∃ z, rs[i]? = some z := ⟨rs[i], by simp [hi]⟩
  rw [mRi_at hz] at hy
  have hy := (Option.some.inj hy).symm
  obtain ⟨u', a0, a1, a2, a3⟩ := h i _ g' (mRi_at hz) hg'
  have hgb : b ∉ g' := head_out hnd hg'
  rw [hcell, hcell, hcell]
  by_cases e : i = n
  · subst e
    obtain rfl : z = x := by rw [hx] at hz; exact (Option.some.inj hz).symm
    obtain rfl : g' = g := by rw [hg] at hg'; exact (Option.some.inj hg').symm
    obtain rfl : u' = u := by rw [hu] at a2; exact (Option.some.inj a2).symm
    rw [if_pos (by omega)] at hy
    subst hy
    refine ⟨u', ?_, ?_, ?_, hR⟩
    · rw [World.cell?_setCell_other _ _ _ _ (by intro q; have := congrArg Addr.off q; simp at this)]
      exact World.cell?_setCell_same _ _ _ ((hw1 _).trans a0)
    · exact World.cell?_setCell_same _ _ _ ((World.cell?_setCell_other _ _ _ _ (by intro q; have := congrArg Addr.off q; simp at this)).trans ((hw1 _).trans a1))
    · rw [World.cell?_setCell_other _ _ _ _ (by intro q; have := congrArg Addr.off q; simp at this), World.cell?_setCell_other _ _ _ _ (by intro q; have := congrArg Addr.off q; simp at this)]
      exact (hw1 _).trans a2
  · have ey : y = if i < n then ⟨mt ((offR k rs i : Nat) : Int), ((offR k rs i : Nat) : Int) + 1, mC (offR k rs i + 2) z.cs⟩ else z := by
      rw [hy]
      by_cases hin : i < n
      · rw [if_pos hin, if_pos (by omega)]
      · rw [if_neg hin, if_neg (by omega)]
    rw [← ey] at a0 a1 a3
    have hd := disj_of hnd hg' hg e
    have far : ∀ p q : Nat, p < 3 → q < 3 → o + i * 3 + p ≠ o + n * 3 + q := by intro p q hp hq; omega
    refine ⟨u', ?_, ?_, ?_, a3.keep hs13 fun c hcg => hblk c (a3.lt c hcg) (by rintro rfl; exact hgb hcg) (hd c hcg)⟩
    · rw [World.cell?_setCell_other _ _ _ _ (by intro q; have := congrArg Addr.off q; simp at this; omega), World.cell?_setCell_other _ _ _ _ (by intro q; have := congrArg Addr.off q; simp at this; omega)]
      exact (hw1 _).trans a0
    · rw [World.cell?_setCell_other _ _ _ _ (by intro q; have := congrArg Addr.off q; simp at this; omega), World.cell?_setCell_other _ _ _ _ (by intro q; have := congrArg Addr.off q; simp at this; omega)]
      exact (hw1 _).trans a1
    · rw [World.cell?_setCell_other _ _ _ _ (by intro q; have := congrArg Addr.off q; simp at this; omega), World.cell?_setCell_other _ _ _ _ (by intro q; have := congrArg Addr.off q; simp at this; omega)]
      exact (hw1 _).trans a2
/-- relations that are marked from k on. -/
def mR (k : Nat) (rs : List R3) : List R3 := mRi k rs.length rs
set_option maxHeartbeats 2000000 in
set_option maxRecDepth 100000 in
theorem markRelS_any (k : Nat) (v : Value) (rs : List R3) (F : List Nat) (w : World) (hr : RelsF w v rs F) (hnd : F.Nodup) (hf : Free w F) (h0 : 0 < k) (h1 : k + 6 * wtR rs ≤ 999999800) :
    Calls Tryz.prog 59 #[v, .int .i64 k] w fun e w' => e = .returned (.int .i64 ((offR k rs rs.length : Nat) : Int)) ∧ RelsF w' v (mR k rs) F ∧ Chg F w w' := by
  obtain ⟨a, c, b, o, G, rfl, hl, hc, hzz, hG, hF0, hC, ha⟩ := hr.pick
  have hlt0 := hr.lt
  have hcm := hc
  unfold maxLen at hc
  clear hr
  have hoff := offR_le k rs
  go_enter Tryz.func59, Tryz.ntmps59
  go_wp2
  go_loopw [1, 5] (fun kk i wr => ∃ n : Nat, n ≤ rs.length ∧ i = .int .i64 n ∧ kk = .int .i64 ((offR k rs n : Nat) : Int) ∧ RLF wr b o (mRi k n rs) G ∧ Chg F w wr) (fun _ i _ => rs.length - (intOf i).toNat)
  case atStart => exact ⟨0, Nat.zero_le _, rfl, by rw [offR_zero], by rw [mRi_zero]; exact hC, Chg.refl _ _⟩
  case round =>
    obtain ⟨n, hn, rfl, rfl, hH, hch⟩ := hrel
    by_cases hlt : n < rs.length
    · obtain ⟨rfl, hblt, rfl⟩ := ha n hlt
      have hzb := hch.size
      have hbr : b < wr.heap.size := by omega
      have hlt' : n < G.length := by omega
      obtain ⟨x, hx⟩ : ∃ x, rs[n]? = some x := ⟨rs[n], by simp [hlt]⟩
      obtain ⟨g, hg⟩ : ∃ g, G[n]? = some g := ⟨G[n], by simp [hlt']⟩
      obtain ⟨u, c0, c1, c2, hR⟩ := hH n _ g (mRi_at hx) hg
      rw [if_neg (by omega)] at hR c0 c1
      have hgF : ∀ y ∈ g, y ∈ b :: G.flatten := fun y hy => List.mem_cons_of_mem _ (List.mem_flatten.2 ⟨g, List.mem_of_getElem? hg, hy⟩)
      have hgb : b ∉ g := head_out hnd hg
      have hgnd : g.Nodup := by
        have h2 := (List.nodup_cons.1 hnd).2
        rw [List.Nodup, List.pairwise_flatten] at h2
        exact h2.1 g (List.mem_of_getElem? hg)
      have hfr := hch.free hf
      have hfr0 : ∀ i, wr.frozen? ⟨b, i, none⟩ = false := hfr b (by simp)
      have hgf : Free wr g := fun y hy => hfr y (hgF y hy)
      have hs := offR_succ (k := k) hx
      have ho1 := hoff n
      have ho2 := hoff (n + 1)
      have HS : Hid (offR k rs (n + 1) = offR k rs n + 2 + sC x.cs) := by show _ = _; omega
      have hko : 0 < offR k rs n := by unfold offR; omega
      have hxw : wtb x.cs ≤ wtR rs := by have := wtr_mem (List.mem_of_getElem? hx); unfold wtr at this; unfold wtR; omega
      have hM := fun w => markText_any (offR k rs n) w (by omega) (by omega)
      have hkn := fun w1 w3 => RLF.step (w1 := w1) (w3 := w3) hH hnd hbr hx hg c2
      have hMC := fun v w' => markCountedS_any (offR k rs n + 2) v x.cs g w'
      have hT : offR k rs n + 2 + 3 * wtb x.cs ≤ 999999900 := by omega
      generalize offR k rs n = t at *
      have e2 : ((t + 2 : Nat) : Int) = (t : Int) + 1 + 1 := by omega
      simp only [e2] at hMC
      clear e2
      have hRs := hR.is.shape
      obtain ⟨au, lu, cu, rfl⟩ := hRs
      clear hs hoff ha hC hf
      go_wp2_with fail
      refine Calls.mono (hM _) ?_
      rintro e w1 ⟨rfl, hb1⟩
      have hz1 := hb1.size
      (try simp only [World.size_alloc] at hz1)
      have hbb : w1.heap[b]? = wr.heap[b]? := hb1.block b hbr
      have q0 : w1.cell? ⟨b, o + n * 3, none⟩ = some (.string x.s) := (cell_blk hbb).trans c0
      have q1 : w1.cell? ⟨b, o + n * 3 + 1, none⟩ = some (.int .i64 x.W) := (cell_blk hbb).trans c1
      have q2 : w1.cell? ⟨b, o + n * 3 + 2, none⟩ = some (.slice au lu cu) := (cell_blk hbb).trans c2
      have hfr1 : ∀ i, w1.frozen? ⟨b, i, none⟩ = false := fun i => (frozen_blk hbb).trans (hfr0 i)
      have hbr1 : b < w1.heap.size := by omega
      have hR1 : RowsF ((w1.setCell ⟨b, o + n * 3, none⟩ (.string (mt (t : Int)))).setCell ⟨b, o + n * 3 + 1, none⟩ (.int .i64 ((t : Int) + 1))) (.slice au lu cu) x.cs g :=
        (hR.below hb1).keep (by simp) fun c hc => by rw [Below.heap_setCell _ _ _ _ (by rintro rfl; exact hgb hc), Below.heap_setCell _ _ _ _ (by rintro rfl; exact hgb hc)]
      have hf1 : Free ((w1.setCell ⟨b, o + n * 3, none⟩ (.string (mt (t : Int)))).setCell ⟨b, o + n * 3 + 1, none⟩ (.int .i64 ((t : Int) + 1))) g := fun y hy i => by
        simp only [World.frozen?_setCell]
        exact (frozen_blk (hb1.block y (hR.lt y hy))).trans (hgf y hy i)
      have hkn1 := fun w3 => hkn w1 w3 hb1
      have hch1 : Chg (b :: G.flatten) w ((w1.setCell ⟨b, o + n * 3, none⟩ (.string (mt (t : Int)))).setCell ⟨b, o + n * 3 + 1, none⟩ (.int .i64 ((t : Int) + 1))) :=
        ((hch.trans (Chg.of_below hb1 fun y hy => by have := hlt0 y hy; omega)).setCell (p := ⟨b, _, none⟩) (by simp) _).setCell (p := ⟨b, _, none⟩) (by simp) _
      have hsz1 : ((w1.setCell ⟨b, o + n * 3, none⟩ (.string (mt (t : Int)))).setCell ⟨b, o + n * 3 + 1, none⟩ (.int .i64 ((t : Int) + 1))).heap.size = w1.heap.size := by simp
      clear hkn hb1 hR hH hM hch hfr hfr0 hgf c0 c1 c2 hbb
      go_wp2_with fail
      refine Calls.mono (hMC _ _ hR1 hgnd hf1 (by omega) hT) ?_
      rintro e w3 ⟨rfl, hR3, hc3⟩
      have hS3 := hkn1 w3 hR3 hc3
      have hch3 : Chg (b :: G.flatten) w w3 := hch1.trans (hc3.wide hgF fun y hy _ => by have := hlt0 y hy; rw [hsz1]; omega)
      have e3 : offC (t + 2) x.cs x.cs.length = t + 2 + sC x.cs := offC_all _ _
      rw [e3]
      clear e3 hc3 hR3 hkn1 hR1 hf1 hch1 hMC hsz1
      go_wp2
      exact ⟨⟨n + 1, hlt, by simp, by rw [HS.out]; first | (congr 1; done) | (congr 1; omega), hS3, hch3⟩, by simp [intOf]; omega⟩
    · go_wp2
      go_returns
      obtain rfl : n = rs.length := by omega
      refine ⟨rfl, ⟨a, c, G, by rw [mR, mRi_len], by rw [mR, mRi_len]; exact hl, hcm, hzz, by rw [mR, mRi_len]; exact hG, fun e => hF0 (by have := congrArg List.length e; rw [mR, mRi_len] at this; exact List.length_eq_zero_iff.1 this), fun hne => ?_⟩, hch⟩
      have hp : 0 < rs.length := by have := List.length_pos_iff.2 hne; rwa [mR, mRi_len] at this
      obtain ⟨e, hlt, hF⟩ := ha 0 hp
      exact ⟨b, o, e, by have := hch.size; omega, hF, hH⟩
set_option maxHeartbeats 2000000 in
set_option maxRecDepth 100000 in
theorem heldRelS_any (k : Nat) (v : Value) (rs : List R3) (w : World) (hr : RelsIs w v (mR k rs)) (h0 : 0 < k) (h1 : k + 6 * wtR rs ≤ 999999800) :
    Calls Tryz.prog 61 #[v, .int .i64 k] w fun e w' => e = .returned (.int .i64 ((offR k rs rs.length : Nat) : Int)) ∧ Below w.heap.size w w' := by
  obtain ⟨a, c, b, o, rfl, hl, hc, ha⟩ := hr.pick
  have hln : (mR k rs).length = rs.length := mRi_len _ _ _
  rw [hln] at hl ha
  rw [hln]
  unfold maxLen at hc
  clear hr hln
  have hoff := offR_le k rs
  go_enter Tryz.func61, Tryz.ntmps61
  go_wp2
  go_loopw [1, 5] (fun kk i wr => ∃ n : Nat, n ≤ rs.length ∧ i = .int .i64 n ∧ kk = .int .i64 ((offR k rs n : Nat) : Int) ∧ Below w.heap.size w wr) (fun _ i _ => rs.length - (intOf i).toNat)
  case atStart => exact ⟨0, Nat.zero_le _, rfl, by rw [offR_zero], by go_grown⟩
  case round =>
    obtain ⟨n, hn, rfl, rfl, hb⟩ := hrel
    by_cases hlt : n < rs.length
    · obtain ⟨rfl, hblt, hL⟩ := ha n hlt
      have hzb := hb.size
      have hbr : b < wr.heap.size := by omega
      obtain ⟨x, hx⟩ : ∃ x, rs[n]? = some x := ⟨rs[n], by simp [hlt]⟩
      obtain ⟨u, c0, c1, c2, hR⟩ := hL.below hb hblt n _ (mRi_at hx)
      rw [if_pos hlt] at hR c0 c1
      have hs := offR_succ (k := k) hx
      have ho1 := hoff n
      have ho2 := hoff (n + 1)
      have HS : Hid (offR k rs (n + 1) = offR k rs n + 2 + sC x.cs) := by show _ = _; omega
      have hko : 0 < offR k rs n := by unfold offR; omega
      have hxw : wtb x.cs ≤ wtR rs := by have := wtr_mem (List.mem_of_getElem? hx); unfold wtr at this; unfold wtR; omega
      have hM := fun w => markText_any (offR k rs n) w (by omega) (by omega)
      have hMC := fun v w' => heldCountedS_any (offR k rs n + 2) v x.cs w'
      have hT : offR k rs n + 2 + 3 * wtb x.cs ≤ 999999900 := by omega
      generalize offR k rs n = t at *
      have e2 : ((t + 2 : Nat) : Int) = (t : Int) + 1 + 1 := by omega
      simp only [e2] at hMC
      clear e2
      obtain ⟨au, lu, cu, rfl⟩ := hR.shape
      dsimp only at c0 c1 hR
      clear hs hoff ha hL hx
      go_wp2_with fail
      go_region_with (first | (go_at_call 57; refine (hM _).mono ?_; rintro x w2 ⟨rfl, hb2⟩; have hz2 := hb2.size; (try simp at hz2); have p0 : w2.cell? ⟨b, o + n * 3, none⟩ = some (.string (mt (t : Int))) := cell_later hb2 (by go_simp); have p1 : w2.cell? ⟨b, o + n * 3 + 1, none⟩ = some (.int .i64 ((t : Int) + 1)) := cell_later hb2 (by go_simp); have p2 : w2.cell? ⟨b, o + n * 3 + 2, none⟩ = some (.slice au lu cu) := cell_later hb2 (by go_simp)))
      all_goals go_wp2_with fail
      all_goals refine Calls.mono (hMC _ _ (hR.below (by repeat (first | (with_reducible exact Below.refl _ _) | (with_reducible refine Below.drew ?_) | (with_reducible refine Below.alloc ?_ ?hh _; case hh => first | (simp; done) | (simp; omega) | omega) | (with_reducible refine Below.setCell ?_ ?hh _; case hh => first | (simp; done) | (simp; omega) | omega) | refine bstep (by assumption) (by first | (simp; done) | (simp; omega) | omega) ?_))) (by omega) hT) ?_
      all_goals rintro e w3 ⟨rfl, hb3⟩
      all_goals rw [offC_all]
      all_goals have hz3 := hb3.size
      all_goals go_wp2
      all_goals exact ⟨⟨n + 1, hlt, by simp, by rw [HS.out]; first | (congr 1; done) | (congr 1; omega), by repeat (first | (with_reducible exact Below.refl _ _) | (with_reducible refine Below.drew ?_) | (with_reducible refine Below.alloc ?_ ?hh _; case hh => first | (simp; done) | (simp; omega) | omega) | (with_reducible refine Below.setCell ?_ ?hh _; case hh => first | (simp; done) | (simp; omega) | omega) | refine bstep (by assumption) (by first | (simp; done) | (simp; omega) | omega) ?_)⟩, by simp [intOf]; omega⟩
    · go_wp2
      go_returns
      obtain rfl : n = rs.length := by omega
      exact ⟨rfl, hb⟩
end Go.Proofs.YtlobjpdkjlmglaaGreat
/- Own text. markStep and heldStep: what they write and what they ask for. -/
namespace Go.Proofs.YtlobjpdkjlmglaaGreat
open Go.RowKit Go.Deep
set_option linter.unusedVariables false
/-- the mark behind a step's. -/
def kT (k : Nat) (x : T5) : Nat := offR (k + x.cs.length) x.rs x.rs.length
/-- a step's two lists, marked from k on. -/
def Mkd (w : World) (uc ur : Value) (x : T5) (k : Nat) (g F : List Nat) : Prop := StrsF w uc (mS k x.cs) g ∧ RelsF w ur (mR (k + x.cs.length) x.rs) F
theorem Mkd.below {w w' : World} {uc ur : Value} {x : T5} {k : Nat} {g F : List Nat} (h : Mkd w uc ur x k g F) (hb : Below w.heap.size w w') : Mkd w' uc ur x k g F := ⟨h.1.below hb, h.2.below hb⟩
end Go.Proofs.YtlobjpdkjlmglaaGreat
/- Own text. markStepS and heldStepS: steps that are written over with marks, and that have them still. -/
namespace Go.Proofs.YtlobjpdkjlmglaaGreat
open Go.RowKit Go.Deep
set_option linter.unusedVariables false
/-- how many marks relations take, a step takes. -/
def sR (rs : List R3) : Nat := (rs.map fun x => 2 + sC x.cs).sum
theorem offR_all (k : Nat) (rs : List R3) : offR k rs rs.length = k + sR rs := by unfold offR sR; rw [List.take_length]
theorem sR_le (rs : List R3) : sR rs ≤ 3 * wtR rs := sumR_le rs
def mm (x : T5) : Nat := 3 + x.cs.length + sR x.rs
/-- what is asked of a step's size. -/
def mb (x : T5) : Nat := 3 + x.cs.length + 6 * wtR x.rs
theorem mm_le (x : T5) : mm x ≤ mb x := by have := sR_le x.rs; unfold mm mb; omega
def mbs (ts : List T5) : Nat := (ts.map mb).sum
/-- the mark that step i begins with. -/
def offT (k : Nat) (ts : List T5) (i : Nat) : Nat := k + ((ts.take i).map mm).sum
theorem offT_zero (k : Nat) (ts : List T5) : offT k ts 0 = k := by simp [offT]
theorem offT_succ {k i : Nat} {ts : List T5} {x : T5} (h : ts[i]? = some x) : offT k ts (i + 1) = offT k ts i + mm x := by
  obtain ⟨hk, rfl⟩ := List.getElem?_eq_some_iff.1 h
  unfold offT
  rw [List.take_succ_eq_append_getElem hk, List.map_append, List.sum_append]
  simp only [List.map_cons, List.map_nil, List.sum_cons, List.sum_nil]
  omega
theorem mms_le : ∀ l : List T5, (l.map mm).sum ≤ mbs l
  | [] => by simp [mbs]
  | x :: l => by
    have h1 := mm_le x
    have h2 := mms_le l
    unfold mbs at h2 ⊢
    simp only [List.map_cons, List.sum_cons]
    omega
theorem offT_at {k i : Nat} {ts : List T5} {x : T5} (h : ts[i]? = some x) : offT k ts i + mb x ≤ k + mbs ts := by
  obtain ⟨hk, rfl⟩ := List.getElem?_eq_some_iff.1 h
  have h1 := mms_le (ts.take i)
  have h2 : mbs (ts.take i) + mb ts[i] ≤ mbs ts := by
    have e : mbs ts = mbs (ts.take i) + (mb ts[i] + mbs (ts.drop (i + 1))) := by
      conv => lhs; rw [← List.take_append_drop i ts, List.drop_eq_getElem_cons hk]
      unfold mbs
      rw [List.map_append, List.sum_append, List.map_cons, List.sum_cons]
    omega
  unfold offT
  omega
/-- a step that is marked from t on. -/
def mkT (t : Nat) (x : T5) : T5 := ⟨(t : Int), mt ((t + 1 : Nat) : Int), mS (t + 2) x.cs, mt ((t + 2 + x.cs.length : Nat) : Int), mR (t + 3 + x.cs.length) x.rs⟩
def mTi (k n : Nat) (ts : List T5) : List T5 := ts.mapIdx fun i x => if i < n then mkT (offT k ts i) x else x
def mTs (k : Nat) (ts : List T5) : List T5 := mTi k ts.length ts
theorem mTi_len (k n : Nat) (ts : List T5) : (mTi k n ts).length = ts.length := by simp [mTi]
theorem mTi_at {k n i : Nat} {ts : List T5} {x : T5} (h : ts[i]? = some x) : (mTi k n ts)[i]? = some (if i < n then mkT (offT k ts i) x else x) := by simp [mTi, h]
theorem mTi_zero (k : Nat) (ts : List T5) : mTi k 0 ts = ts := by
  apply List.ext_getElem?
  intro i
  cases h : ts[i]? with
  | none => have := List.getElem?_eq_none_iff.1 h; rw [List.getElem?_eq_none (by rw [mTi_len]; exact this)]
  | some x => rw [mTi_at h, if_neg (by omega)]
/-- the next step is marked. -/
theorem TLF.step {w w3 : World} {b o k n : Nat} {ts : List T5} {G : List (List Nat)} {x : T5} {g : List Nat} {u : Value × Value} (h : TLF w b o (mTi k n ts) G) (hnd : (b :: G.flatten).Nodup) (hb : b < w.heap.size) (hx : ts[n]? = some x) (hg : G[n]? = some g)
    (c0 : w3.cell? ⟨b, o + n * 5, none⟩ = some (.int .i64 (mkT (offT k ts n) x).k)) (c1 : w3.cell? ⟨b, o + n * 5 + 1, none⟩ = some (.string (mkT (offT k ts n) x).s)) (c2 : w3.cell? ⟨b, o + n * 5 + 2, none⟩ = some u.1) (c3 : w3.cell? ⟨b, o + n * 5 + 3, none⟩ = some (.string (mkT (offT k ts n) x).q)) (c4 : w3.cell? ⟨b, o + n * 5 + 4, none⟩ = some u.2)
    (hS : StpF w3 u (mkT (offT k ts n) x) g) (hsz : w.heap.size ≤ w3.heap.size) (hcell : ∀ q, q < o + n * 5 ∨ o + n * 5 + 5 ≤ q → w3.cell? ⟨b, q, none⟩ = w.cell? ⟨b, q, none⟩) (hblk : ∀ c, c < w.heap.size → c ≠ b → c ∉ g → w3.heap[c]? = w.heap[c]?) :
    TLF w3 b o (mTi k (n + 1) ts) G := by
  intro i y g' hy hg'
  have hi : i < ts.length := by have := (List.getElem?_eq_some_iff.1 hy).1; rwa [mTi_len] at this
  obtain ⟨z, hz⟩ : ∃ z, ts[i]? = some z := ⟨ts[i], by simp [hi]⟩
  rw [mTi_at hz] at hy
  have hy := (Option.some.inj hy).symm
  obtain ⟨u', a0, a1, a2, a3, a4, a5⟩ := h i _ g' (mTi_at hz) hg'
  have hgb : b ∉ g' := head_out hnd hg'
  by_cases e : i = n
  · subst e
    obtain rfl : z = x := by rw [hx] at hz; exact (Option.some.inj hz).symm
    obtain rfl : g' = g := by rw [hg] at hg'; exact (Option.some.inj hg').symm
    rw [if_pos (by omega)] at hy
    subst hy
    exact ⟨u, c0, c1, c2, c3, c4, hS⟩
  · have ey : y = if i < n then mkT (offT k ts i) z else z := by
      rw [hy]
      by_cases hin : i < n
      · rw [if_pos hin, if_pos (by omega)]
      · rw [if_neg hin, if_neg (by omega)]
    rw [← ey] at a0 a1 a3 a5
    have hd := disj_of hnd hg' hg e
    exact ⟨u', (hcell _ (by omega)).trans a0, (hcell _ (by omega)).trans a1, (hcell _ (by omega)).trans a2, (hcell _ (by omega)).trans a3, (hcell _ (by omega)).trans a4, a5.keep hsz fun c hcg => hblk c (a5.lt c hcg) (by rintro rfl; exact hgb hcg) (hd c hcg)⟩
/-- the cells of a block. -/
def Cv (w : World) (b : Nat) (f : Nat → Option Value) : Prop := ∀ q, w.cell? ⟨b, q, none⟩ = f q
theorem Cv.keep {w w' : World} {b : Nat} {f : Nat → Option Value} (h : Cv w b f) (e : w'.heap[b]? = w.heap[b]?) : Cv w' b f := fun q => (cell_blk e).trans (h q)
def upd (f : Nat → Option Value) (p : Nat) (v : Value) (q : Nat) : Option Value := if q = p then some v else f q
theorem upd_same (f : Nat → Option Value) (p : Nat) (v : Value) : upd f p v p = some v := if_pos rfl
theorem upd_ne {f : Nat → Option Value} {p q : Nat} {v : Value} (h : q ≠ p) : upd f p v q = f q := if_neg h
theorem Cv.set {w : World} {b p : Nat} {f : Nat → Option Value} {v v0 : Value} (h : Cv w b f) (h0 : w.cell? ⟨b, p, none⟩ = some v0) : Cv (w.setCell ⟨b, p, none⟩ v) b (upd f p v) := fun q => by
  by_cases e : q = p
  · subst e
    rw [upd_same]
    exact World.cell?_setCell_same _ _ _ h0
  · rw [upd_ne e, World.cell?_setCell_other _ _ _ _ (by intro q'; have := congrArg Addr.off q'; simp at this; omega)]
    exact h q
set_option maxHeartbeats 4000000 in
set_option maxRecDepth 100000 in
theorem markStepS_any (k : Nat) (v : Value) (rs : List T5) (F : List Nat) (w : World) (hr : StsF w v rs F) (hnd : F.Nodup) (hf : Free w F) (h0 : 0 < k) (h1 : k + mbs rs ≤ 999999700) :
    Calls Tryz.prog 24 #[v, .int .i64 k] w fun e w' => e = .returned (.int .i64 ((offT k rs rs.length : Nat) : Int)) ∧ StsF w' v (mTs k rs) F ∧ Chg F w w' := by
  obtain ⟨a, c, b, o, G, rfl, hl, hc, hzz, hG, hF0, hC, ha⟩ := hr.pick
  have hlt0 := hr.lt
  have hcm := hc
  unfold maxLen at hc
  clear hr
  go_enter Tryz.func24, Tryz.ntmps24
  go_wp2
  go_loopw [1, 5] (fun kk i wr => ∃ n : Nat, n ≤ rs.length ∧ i = .int .i64 n ∧ kk = .int .i64 ((offT k rs n : Nat) : Int) ∧ TLF wr b o (mTi k n rs) G ∧ Chg F w wr) (fun _ i _ => rs.length - (intOf i).toNat)
  case atStart => exact ⟨0, Nat.zero_le _, rfl, by rw [offT_zero], by rw [mTi_zero]; exact hC, Chg.refl _ _⟩
  case round =>
    obtain ⟨n, hn, rfl, rfl, hH, hch⟩ := hrel
    by_cases hlt : n < rs.length
    · obtain ⟨rfl, hblt, rfl⟩ := ha n hlt
      have hzb := hch.size
      have hbr : b < wr.heap.size := by omega
      have hlt' : n < G.length := by omega
      obtain ⟨x, hx⟩ : ∃ x, rs[n]? = some x := ⟨rs[n], by simp [hlt]⟩
      obtain ⟨g, hg⟩ : ∃ g, G[n]? = some g := ⟨G[n], by simp [hlt']⟩
      obtain ⟨⟨u1, u2⟩, c0, c1, c2, c3, c4, hR⟩ := hH n _ g (mTi_at hx) hg
      rw [if_neg (by omega)] at hR c0 c1 c3
      dsimp only at c2 c4
      have hgF : ∀ y ∈ g, y ∈ b :: G.flatten := fun y hy => List.mem_cons_of_mem _ (List.mem_flatten.2 ⟨g, List.mem_of_getElem? hg, hy⟩)
      have hgb : b ∉ g := head_out hnd hg
      have hgnd : g.Nodup := by
        have h2 := (List.nodup_cons.1 hnd).2
        rw [List.Nodup, List.pairwise_flatten] at h2
        exact h2.1 g (List.mem_of_getElem? hg)
      have hfr := hch.free hf
      have hfb : ∀ i, wr.frozen? ⟨b, i, none⟩ = false := hfr b (by simp)
      have hgf : Free wr g := fun y hy => hfr y (hgF y hy)
      obtain ⟨g1, g2, rfl, hA, hB⟩ := hR
      have hgl1 := hA.lt
      have hgl2 := hB.lt
      dsimp only at hA hB
      have hbg1 : b ∉ g1 := fun h => hgb (List.mem_append_left _ h)
      have hbg2 : b ∉ g2 := fun h => hgb (List.mem_append_right _ h)
      have hd12 : ∀ y ∈ g1, y ∉ g2 := fun y h1 h2 => (List.nodup_append.1 hgnd).2.2 y h1 y h2 rfl
      have hs := offT_succ (k := k) hx
      have ho1 := offT_at (k := k) hx
      have hko : 0 < offT k rs n := by unfold offT; omega
      have HST := fun w3 => TLF.step (w3 := w3) (u := (u1, u2)) hH hnd hbr hx hg
      unfold mkT at HST
      dsimp only at HST
      generalize offT k rs n = t at *
      have HS : Hid (offT k rs (n + 1) = t + 3 + x.cs.length + sR x.rs) := by show _ = _; rw [hs]; unfold mm; omega
      unfold mb at ho1
      have hM1 := fun w => markText_any (t + 1) w (by omega) (by omega)
      have hMS := fun w' (h1 : StrsF w' u1 x.cs g1) (h2 : Free w' g1) => markStringS_any (t + 2) u1 x.cs g1 w' h1 h2 (by omega) (by omega)
      have hM2 := fun w => markText_any (t + 2 + x.cs.length) w (by omega) (by omega)
      have hMR := fun w' (h1 : RelsF w' u2 x.rs g2) (h2 : Free w' g2) => markRelS_any (t + 3 + x.cs.length) u2 x.rs g2 w' h1 (List.nodup_append.1 hgnd).2.1 h2 (by omega) (by omega)
      have hsl1 : ∃ a1 n1 c1, u1 = .slice a1 n1 c1 := by obtain ⟨ac, cc, h, _, _⟩ := hA.shape; exact ⟨_, _, _, h⟩
      have hsl2 : ∃ a1 n1 c1, u2 = .slice a1 n1 c1 := by obtain ⟨a, c, _, h, _⟩ := hB; exact ⟨_, _, _, h⟩
      obtain ⟨sa, sl, sc, rfl⟩ := hsl1
      obtain ⟨ra, rl', rc, rfl⟩ := hsl2
      have hcv : Cv wr b (fun q => wr.cell? ⟨b, q, none⟩) := fun q => rfl
      clear hs ha hC hf hH hx hfr
      have e1 : ((t + 1 : Nat) : Int) = (t : Int) + 1 := by omega
      have e2 : ((t + 2 : Nat) : Int) = (t : Int) + 1 + 1 := by omega
      obtain ⟨K2, HK2⟩ : ∃ K2 : Int, Hid (((t + 2 + x.cs.length : Nat) : Int) = K2) := ⟨_, rfl⟩
      have e3 : ((t + 3 + x.cs.length : Nat) : Int) = K2 + 1 := by have := HK2.out; omega
      obtain ⟨K4, HK4⟩ : ∃ K4 : Int, Hid (((offR (t + 3 + x.cs.length) x.rs x.rs.length : Nat) : Int) = K4) := ⟨_, rfl⟩
      have hK2 : 0 ≤ K2 ∧ K2 ≤ 999999900 := by have := HK2.out; omega
      simp only [e1, HK2.out] at HST
      simp only [e1] at hM1
      simp only [e2, HK2.out] at hMS
      simp only [HK2.out] at hM2
      simp only [e3, HK4.out] at hMR
      clear e1 e2 e3 HK2
      go_wp2_with fail
      refine Calls.mono (hM1 _) ?_
      rintro e w1 ⟨rfl, hb1⟩
      have hz1 : wr.heap.size ≤ w1.heap.size := by simpa using hb1.size
      have k1 := hb1.block b (by simpa using hbr)
      have v1 := (hcv.set (v := .int .i64 t) c0).keep k1
      have n1 : ∀ y, y < wr.heap.size → y ≠ b → w1.heap[y]? = wr.heap[y]? := fun y hy hne => (hb1.block y (by simpa using hy)).trans (Below.heap_setCell _ _ _ _ hne)
      have f1 : ∀ i, w1.frozen? ⟨b, i, none⟩ = false := fun i => (frozen_blk k1).trans (by rw [World.frozen?_setCell]; exact hfb i)
      have hch1 : Chg (b :: G.flatten) w w1 := (hch.setCell (p := ⟨b, _, none⟩) (by simp) _).trans (Chg.of_below hb1 (fun y hy => by have := hlt0 y hy; simp; omega))
      have q1 : w1.cell? ⟨b, o + n * 5 + 1, none⟩ = some (.string x.s) := (v1 _).trans (by rw [upd_ne (by omega)]; exact c1)
      have q2 : w1.cell? ⟨b, o + n * 5 + 2, none⟩ = some (.slice sa sl sc) := (v1 _).trans (by rw [upd_ne (by omega)]; exact c2)
      have hbr1 : b < w1.heap.size := by omega
      have v2s := v1.set (v := .string (mt ((t : Int) + 1))) q1
      clear hb1 k1 hM1 hcv hch
      go_wp2_with fail
      refine Calls.mono (hMS _ ?s1 ?s2) ?_
      case s1 => exact hA.keep (by simp; omega) fun y hy => (Below.heap_setCell _ _ _ _ (by rintro rfl; exact hbg1 hy)).trans (n1 y (hgl1 y hy) (by rintro rfl; exact hbg1 hy))
      case s2 =>
        intro y hy i
        rw [World.frozen?_setCell]
        exact (frozen_blk (n1 y (hgl1 y hy) (by rintro rfl; exact hbg1 hy))).trans (hgf y (List.mem_append_left _ hy) i)
      rintro e w2 ⟨rfl, hA2, hc2⟩
      have hz2 : w1.heap.size ≤ w2.heap.size := by simpa using hc2.size
      have k2 := hc2.block b (by simpa using hbr1) hbg1
      have v2 := v2s.keep k2
      have n2 : ∀ y, y < wr.heap.size → y ≠ b → y ∉ g1 → w2.heap[y]? = wr.heap[y]? := fun y hy hne h1 => (hc2.block y (by simp; omega) h1).trans ((Below.heap_setCell _ _ _ _ hne).trans (n1 y hy hne))
      have f2 : ∀ i, w2.frozen? ⟨b, i, none⟩ = false := fun i => (frozen_blk k2).trans (by rw [World.frozen?_setCell]; exact f1 i)
      have hch2 : Chg (b :: G.flatten) w w2 := (hch1.setCell (p := ⟨b, _, none⟩) (by simp) _).trans (hc2.wide (fun y hy => hgF y (List.mem_append_left _ hy)) (fun y hy _ => by have := hlt0 y hy; simp; omega))
      have hbr2 : b < w2.heap.size := by omega
      clear hc2 k2 hMS v1 v2s q1 q2 hch1 hA
      go_wp2_with fail
      refine Calls.mono (hM2 _) ?_
      rintro e w3 ⟨rfl, hb3⟩
      have hz3 := hb3.size
      have k3 := hb3.block b hbr2
      have v3 := v2.keep k3
      have n3 : ∀ y, y < w2.heap.size → w3.heap[y]? = w2.heap[y]? := fun y hy => hb3.block y hy
      have f3 : ∀ i, w3.frozen? ⟨b, i, none⟩ = false := fun i => (frozen_blk k3).trans (f2 i)
      have hch3 : Chg (b :: G.flatten) w w3 := hch2.trans (Chg.of_below hb3 (fun y hy => by have := hlt0 y hy; omega))
      have q3 : w3.cell? ⟨b, o + n * 5 + 3, none⟩ = some (.string x.q) := (v3 _).trans (by rw [upd_ne (by omega), upd_ne (by omega)]; exact c3)
      have q4 : w3.cell? ⟨b, o + n * 5 + 4, none⟩ = some (.slice ra rl' rc) := (v3 _).trans (by rw [upd_ne (by omega), upd_ne (by omega)]; exact c4)
      have hbr3 : b < w3.heap.size := by omega
      have v4s := v3.set (v := .string (mt K2)) q3
      clear hb3 k3 hM2 v2 hch2
      go_wp2_with fail
      refine Calls.mono (hMR _ ?s3 ?s4) ?_
      case s3 => exact hB.keep (by simp; omega) fun y hy => (Below.heap_setCell _ _ _ _ (by rintro rfl; exact hbg2 hy)).trans ((n3 y (by have := hgl2 y hy; omega)).trans (n2 y (hgl2 y hy) (by rintro rfl; exact hbg2 hy) (fun h1 => hd12 y h1 hy)))
      case s4 =>
        intro y hy i
        rw [World.frozen?_setCell]
        exact (frozen_blk ((n3 y (by have := hgl2 y hy; omega)).trans (n2 y (hgl2 y hy) (by rintro rfl; exact hbg2 hy) (fun h1 => hd12 y h1 hy)))).trans (hgf y (List.mem_append_right _ hy) i)
      rintro e w4 ⟨rfl, hB4, hc4⟩
      have hz4 : w3.heap.size ≤ w4.heap.size := by simpa using hc4.size
      have v4 := v4s.keep (hc4.block b (by simpa using hbr3) hbg2)
      have n4 : ∀ y, y < w3.heap.size → y ≠ b → y ∉ g2 → w4.heap[y]? = w3.heap[y]? := fun y hy hne h1 => (hc4.block y (by simpa using hy) h1).trans (Below.heap_setCell _ _ _ _ hne)
      have hch4 : Chg (b :: G.flatten) w w4 := (hch3.setCell (p := ⟨b, _, none⟩) (by simp) _).trans (hc4.wide (fun y hy => hgF y (List.mem_append_right _ hy)) (fun y hy _ => by have := hlt0 y hy; simp; omega))
      have hA4 : StrsF w4 (.slice sa sl sc) (mS (t + 2) x.cs) g1 := hA2.keep (by omega) fun y hy => (n4 y (by have := hgl1 y hy; omega) (by rintro rfl; exact hbg1 hy) (hd12 y hy)).trans (n3 y (by have := hgl1 y hy; omega))
      have hS4 := HST w4 ((v4 _).trans (by rw [upd_ne (by omega), upd_ne (by omega), upd_same])) ((v4 _).trans (by rw [upd_ne (by omega), upd_same])) ((v4 _).trans (by rw [upd_ne (by omega), upd_ne (by omega), upd_ne (by omega)]; exact c2)) ((v4 _).trans (by rw [upd_same])) ((v4 _).trans (by rw [upd_ne (by omega), upd_ne (by omega), upd_ne (by omega)]; exact c4)) ⟨g1, g2, rfl, hA4, hB4⟩ (by omega) (fun q hq => (v4 q).trans (by rw [upd_ne (by omega), upd_ne (by omega), upd_ne (by omega)])) (fun y hy hne hyg => (n4 y (by omega) hne (fun h => hyg (List.mem_append_right _ h))).trans ((n3 y (by omega)).trans (n2 y hy hne (fun h => hyg (List.mem_append_left _ h)))))
      clear hc4 hMR v3 v4 v4s q3 q4 hch3 hB HST n1 n2 n3 n4 hA4 hB4 hA2
      go_wp2
      exact ⟨⟨n + 1, hlt, by simp, by rw [HS.out, ← HK4.out, offR_all], hS4, hch4⟩, by simp [intOf]; omega⟩
    · go_wp2
      go_returns
      obtain rfl : n = rs.length := by omega
      refine ⟨rfl, ⟨a, c, G, by rw [mTs, mTi_len], by rw [mTs, mTi_len]; exact hl, hcm, hzz, by rw [mTs, mTi_len]; exact hG, fun e => hF0 (by have := congrArg List.length e; rw [mTs, mTi_len] at this; exact List.length_eq_zero_iff.1 this), fun hne => ?_⟩, hch⟩
      have hp : 0 < rs.length := by have := List.length_pos_iff.2 hne; rwa [mTs, mTi_len] at this
      obtain ⟨e, hlt, hF⟩ := ha 0 hp
      exact ⟨b, o, e, by have := hch.size; omega, hF, hH⟩
set_option maxHeartbeats 4000000 in
set_option maxRecDepth 100000 in
theorem heldStepS_any (k : Nat) (v : Value) (rs : List T5) (F : List Nat) (w : World) (hr : StsF w v (mTs k rs) F) (h0 : 0 < k) (h1 : k + mbs rs ≤ 999999700) :
    Calls Tryz.prog 25 #[v, .int .i64 k] w fun e w' => e = .returned (.int .i64 ((offT k rs rs.length : Nat) : Int)) ∧ Below w.heap.size w w' := by
  obtain ⟨a, c, b, o, G, rfl, hl, hc, hzz, hG, hF0, hC, ha⟩ := hr.pick
  have hln : (mTs k rs).length = rs.length := mTi_len _ _ _
  rw [hln] at hl ha hG
  rw [hln]
  unfold maxLen at hc
  clear hr hln
  go_enter Tryz.func25, Tryz.ntmps25
  go_wp2
  go_loopw [1, 5] (fun kk i wr => ∃ n : Nat, n ≤ rs.length ∧ i = .int .i64 n ∧ kk = .int .i64 ((offT k rs n : Nat) : Int) ∧ Below w.heap.size w wr) (fun _ i _ => rs.length - (intOf i).toNat)
  case atStart => exact ⟨0, Nat.zero_le _, rfl, by rw [offT_zero], by go_grown⟩
  case round =>
    obtain ⟨n, hn, rfl, rfl, hb⟩ := hrel
    by_cases hlt : n < rs.length
    · obtain ⟨rfl, hblt, rfl⟩ := ha n hlt
      have hzb := hb.size
      have hbr : b < wr.heap.size := by omega
      obtain ⟨x, hx⟩ : ∃ x, rs[n]? = some x := ⟨rs[n], by simp [hlt]⟩
      obtain ⟨g, hg⟩ : ∃ g, G[n]? = some g := ⟨G[n]'(by omega), by simp⟩
      obtain ⟨⟨u1, u2⟩, c0, c1, c2, c3, c4, hR⟩ := hC n _ g (mTi_at hx) hg
      rw [if_pos hlt] at hR c0 c1 c3
      obtain ⟨g1, g2, rfl, hA, hB⟩ := hR
      have hs := offT_succ (k := k) hx
      have ho1 := offT_at (k := k) hx
      have hko : 0 < offT k rs n := by unfold offT; omega
      unfold mkT at hA hB c0 c1 c3
      dsimp only at hA hB c0 c1 c2 c3 c4
      generalize offT k rs n = t at *
      have HS : Hid (offT k rs (n + 1) = t + 3 + x.cs.length + sR x.rs) := by show _ = _; rw [hs]; unfold mm; omega
      unfold mb at ho1
      have hM1 := fun w => markText_any (t + 1) w (by omega) (by omega)
      have hMS := fun w' (hb' : Below w.heap.size w w') => heldStringS_any (t + 2) u1 x.cs g1 w' (hA.below hb') (by omega) (by omega)
      have hM2 := fun w => markText_any (t + 2 + x.cs.length) w (by omega) (by omega)
      have hMR := fun w' (hb' : Below w.heap.size w w') => heldRelS_any (t + 3 + x.cs.length) u2 x.rs w' (hB.is.below hb') (by omega) (by omega)
      have hsl1 : ∃ a1 n1 c1, u1 = .slice a1 n1 c1 := by obtain ⟨ac, cc, h, _, _⟩ := hA.shape; exact ⟨_, _, _, h⟩
      have hsl2 : ∃ a1 n1 c1, u2 = .slice a1 n1 c1 := by obtain ⟨a, c, _, h, _⟩ := hB; exact ⟨_, _, _, h⟩
      obtain ⟨sa, sl, sc, rfl⟩ := hsl1
      obtain ⟨ra, rl', rc, rfl⟩ := hsl2
      have e1 : ((t + 1 : Nat) : Int) = (t : Int) + 1 := by omega
      have e2 : ((t + 2 : Nat) : Int) = (t : Int) + 1 + 1 := by omega
      obtain ⟨K2, HK2⟩ : ∃ K2 : Int, Hid (((t + 2 + x.cs.length : Nat) : Int) = K2) := ⟨_, rfl⟩
      have e3 : ((t + 3 + x.cs.length : Nat) : Int) = K2 + 1 := by have := HK2.out; omega
      obtain ⟨K4, HK4⟩ : ∃ K4 : Int, Hid (((offR (t + 3 + x.cs.length) x.rs x.rs.length : Nat) : Int) = K4) := ⟨_, rfl⟩
      have hK2 : 0 ≤ K2 ∧ K2 ≤ 999999900 := by have := HK2.out; omega
      have hK4 : 0 ≤ K4 := by have := HK4.out; omega
      have hn2 : ¬ (K2 < 0) := by omega
      have hn4 : ¬ (K4 < 0) := by omega
      simp only [e1] at hM1 c1
      simp only [e2, HK2.out] at hMS
      simp only [HK2.out] at hM2 c3
      simp only [e3, HK4.out] at hMR
      have cw := fun w' (hb' : Below w.heap.size w w') (q : Nat) => cell_blk (o := q) (hb'.block b hblt)
      have y0 := (cw wr hb _).trans c0
      have y1 := (cw wr hb _).trans c1
      have y2 := (cw wr hb _).trans c2
      have y3 := (cw wr hb _).trans c3
      have y4 := (cw wr hb _).trans c4
      clear e1 e2 e3 HK2 hs hx ha hC hA hB hg
      have hne0 : ((t : Int) != (t : Int)) = false := by simp
      go_wp2_with fail
      go_region_held3 (fun w' => w'.cell? ⟨b, o + n * 5 + 1, none⟩ = some (.string (mt ((t : Int) + 1)))) (first | (with_reducible assumption) | (go_simp; done) | (exact cell_later (by assumption) (by go_simp))) (first | (go_at_call 57; refine Calls.mono (hM1 _) ?_; rintro e w1 ⟨rfl, hb1⟩))
      have bel1 : Below w.heap.size w w1 := by repeat (first | (with_reducible exact Below.refl _ _) | (with_reducible refine Below.drew ?_) | (with_reducible refine Below.alloc ?_ ?hh _; case hh => first | (simp; done) | (simp; omega) | omega) | (with_reducible refine Below.setCell ?_ ?hh _; case hh => first | (simp; done) | (simp; omega) | omega) | refine bstep (by assumption) (by first | (simp; done) | (simp; omega) | omega) ?_)
      have hz1 := bel1.size
      have z2 := (cw w1 bel1 _).trans c2
      have hbr1 : b < w1.heap.size := by omega
      clear y0 y1 y2 y3 y4 hb1 hM1
      go_wp2_with fail
      refine Calls.mono (hMS _ (by repeat (first | (with_reducible exact Below.refl _ _) | (with_reducible refine Below.drew ?_) | (with_reducible refine Below.alloc ?_ ?hh _; case hh => first | (simp; done) | (simp; omega) | omega) | (with_reducible refine Below.setCell ?_ ?hh _; case hh => first | (simp; done) | (simp; omega) | omega) | refine bstep (by assumption) (by first | (simp; done) | (simp; omega) | omega) ?_))) ?_
      rintro e w2 ⟨rfl, hb2⟩
      have bel2 : Below w.heap.size w w2 := by repeat (first | (with_reducible exact Below.refl _ _) | (with_reducible refine Below.drew ?_) | (with_reducible refine Below.alloc ?_ ?hh _; case hh => first | (simp; done) | (simp; omega) | omega) | (with_reducible refine Below.setCell ?_ ?hh _; case hh => first | (simp; done) | (simp; omega) | omega) | refine bstep (by assumption) (by first | (simp; done) | (simp; omega) | omega) ?_)
      have hz2 := bel2.size
      have z3 := (cw w2 bel2 _).trans c3
      have hbr2 : b < w2.heap.size := by omega
      clear z2 hb2 hMS bel1
      go_wp2_with fail
      go_region_held3 (fun w' => w'.cell? ⟨b, o + n * 5 + 3, none⟩ = some (.string (mt K2))) (first | (with_reducible assumption) | (go_simp; done) | (exact cell_later (by assumption) (by go_simp))) (first | (go_at_call 57; refine Calls.mono (hM2 _) ?_; rintro e w3 ⟨rfl, hb3⟩))
      have bel3 : Below w.heap.size w w3 := by repeat (first | (with_reducible exact Below.refl _ _) | (with_reducible refine Below.drew ?_) | (with_reducible refine Below.alloc ?_ ?hh _; case hh => first | (simp; done) | (simp; omega) | omega) | (with_reducible refine Below.setCell ?_ ?hh _; case hh => first | (simp; done) | (simp; omega) | omega) | refine bstep (by assumption) (by first | (simp; done) | (simp; omega) | omega) ?_)
      have hz3 := bel3.size
      have z4 := (cw w3 bel3 _).trans c4
      have hbr3 : b < w3.heap.size := by omega
      clear z3 hb3 hM2 bel2
      go_wp2_with fail
      refine Calls.mono (hMR _ (by repeat (first | (with_reducible exact Below.refl _ _) | (with_reducible refine Below.drew ?_) | (with_reducible refine Below.alloc ?_ ?hh _; case hh => first | (simp; done) | (simp; omega) | omega) | (with_reducible refine Below.setCell ?_ ?hh _; case hh => first | (simp; done) | (simp; omega) | omega) | refine bstep (by assumption) (by first | (simp; done) | (simp; omega) | omega) ?_))) ?_
      rintro e w4 ⟨rfl, hb4⟩
      have bel4 : Below w.heap.size w w4 := by repeat (first | (with_reducible exact Below.refl _ _) | (with_reducible refine Below.drew ?_) | (with_reducible refine Below.alloc ?_ ?hh _; case hh => first | (simp; done) | (simp; omega) | omega) | (with_reducible refine Below.setCell ?_ ?hh _; case hh => first | (simp; done) | (simp; omega) | omega) | refine bstep (by assumption) (by first | (simp; done) | (simp; omega) | omega) ?_)
      clear z4 hb4 hMR bel3 cw c0 c1 c2 c3 c4
      go_wp2
      exact ⟨⟨n + 1, hlt, by simp, by rw [HS.out, ← HK4.out, offR_all], bel4⟩, by simp [intOf]; omega⟩
    · go_wp2
      go_returns
      obtain rfl : n = rs.length := by omega
      exact ⟨rfl, hb⟩
end Go.Proofs.YtlobjpdkjlmglaaGreat
/- Own text. What the statement on GetBag holds together: the boxes of the two answers and their rows; and how it stays so behind calls and marks. -/
namespace Go.Proofs.YtlobjpdkjlmglaaGreat
open Go.RowKit Go.Deep
set_option linter.unusedVariables false
structure GS (w wi : World) (A B : Nat) (W : Int) (s g : Value) (R Y : List C2) (F3 F5 : List Nat) : Prop where
  bel : Below w.heap.size w wi
  a0 : wi.cell? ⟨A, 0, none⟩ = some (.int .i64 W)
  a1 : wi.cell? ⟨A, 1, none⟩ = some s
  g0 : wi.cell? ⟨B, 0, none⟩ = some (.int .i64 W)
  g1 : wi.cell? ⟨B, 1, none⟩ = some g
  sp : RowsF wi s R F3
  gg : RowsF wi g Y F5
  o5 : Own wi w.heap.size F5
  lA : w.heap.size ≤ A
  lB : A < B
  lZ : B < wi.heap.size
  d5 : A ∉ F5 ∧ B ∉ F5
  d35 : ∀ b ∈ F3, b ∉ F5
section
variable {w wi wj : World} {A B : Nat} {W : Int} {s g : Value} {R Y : List C2} {F3 F5 : List Nat}
theorem GS.below (h : GS w wi A B W s g R Y F3 F5) (hb : Below wi.heap.size wi wj) : GS w wj A B W s g R Y F3 F5 := by
  have lA := h.lA
  have lB := h.lB
  have lZ := h.lZ
  have c : ∀ b o, b < wi.heap.size → wj.cell? ⟨b, o, none⟩ = wi.cell? ⟨b, o, none⟩ := (bcell hb).1
  exact ⟨h.bel.trans (hb.mono (by omega)), (c _ _ (by omega)).trans h.a0, (c _ _ (by omega)).trans h.a1, (c _ _ (by omega)).trans h.g0, (c _ _ (by omega)).trans h.g1, h.sp.below hb, h.gg.below hb, h.o5.below h.gg.lt hb, lA, lB, Nat.lt_of_lt_of_le lZ hb.size, h.d5, h.d35⟩
theorem GS.markG (h : GS w wi A B W s g R Y F3 F5) {Y' : List C2} (hc : Chg F5 wi wj) (hy : RowsF wj g Y' F5) : GS w wj A B W s g R Y' F3 F5 := by
  have lA := h.lA
  have lB := h.lB
  have lZ := h.lZ
  have c : ∀ b o, b < wi.heap.size → b ∉ F5 → wj.cell? ⟨b, o, none⟩ = wi.cell? ⟨b, o, none⟩ := fun b o hb hF => cell_blk (hc.block b hb hF)
  exact ⟨h.bel.trans (hc.below h.o5.2.1 (by omega)), (c _ _ (by omega) h.d5.1).trans h.a0, (c _ _ (by omega) h.d5.1).trans h.a1, (c _ _ (by omega) h.d5.2).trans h.g0, (c _ _ (by omega) h.d5.2).trans h.g1, h.sp.chg hc h.d35, hy, ⟨h.o5.1, h.o5.2.1, hc.free h.o5.2.2⟩, lA, lB, Nat.lt_of_lt_of_le lZ hc.size, h.d5, h.d35⟩
end
theorem okW_size {x : V3} (h : okW x = true) : x.s.size ≤ 100 := by
  have nil0 : x.s.toList = [] → x.s.size ≤ 100 := by
    intro e
    rw [ByteArray.toList_eq] at e
    have : x.s.data.toList.length = 0 := by rw [e]; rfl
    have : x.s.size = 0 := by simpa using this
    omega
  unfold okW okB at h
  split at h
  · simp at h; exact nil0 h.2
  split at h
  · simp at h; exact nil0 h
  split at h
  · simp at h; exact nil0 h.2
  split at h
  · simp at h; exact h.2
  · cases h
theorem wts_ok : ∀ {vs : List V3}, (∀ x ∈ vs, okW x = true) → wts vs ≤ 100 * vs.length
  | [], _ => Nat.le_refl _
  | x :: vs, h => by
    have h1 := okW_size (h x (by simp))
    have h2 := wts_ok (vs := vs) fun y hy => h y (by simp [hy])
    unfold wts at h2 ⊢
    simp only [List.map_cons, List.sum_cons, List.length_cons]
    omega
theorem wtcs_ok : ∀ {cs : List C2}, (∀ x ∈ cs, wt x.r ≤ 1212) → wtcs cs ≤ 1212 * cs.length
  | [], _ => Nat.le_refl _
  | x :: cs, h => by
    have h1 := h x (by simp)
    have h2 := wtcs_ok (cs := cs) fun y hy => h y (by simp [hy])
    unfold wtcs at h2 ⊢
    simp only [List.map_cons, List.sum_cons, List.length_cons]
    omega
theorem wtb_ok {W : Int} {cs : List C2} (h : okBag W cs = true) : wtb cs ≤ 1048576 := by
  obtain ⟨_, _, hl, hr⟩ := okBag_facts h
  have h3 : okCs W none cs = true := by simp only [okBag, Bool.and_eq_true] at h; exact h.2
  have : wtcs cs ≤ 1212 * cs.length := wtcs_ok fun x hx => by
    have ho := okCs_mem h3 x hx
    simp only [okRow, Bool.and_eq_true] at ho
    have h4 := wts_ok (vs := x.r) (List.all_eq_true.1 ho.2)
    have h5 := hr x hx
    unfold wt
    omega
  unfold wtb
  omega
theorem aC_small (s : ByteArray) : wtb (aC s) ≤ 1048576 := by
  unfold aC ansB
  split
  · exact Nat.zero_le _
  · rename_i cs h
    split at h
    · cases h
    · unfold resI at h
      split at h
      · cases h
      · rename_i cs' _
        split at h
        · rename_i ok
          cases h
          exact wtb_ok ok
        · cases h
end Go.Proofs.YtlobjpdkjlmglaaGreat
/- Own text. The steps of a log are small: what their marks may come to. -/
namespace Go.Proofs.YtlobjpdkjlmglaaGreat
open Go.RowKit Go.Deep
set_option linter.unusedVariables false
theorem csN_ge : ∀ cs : List C2, 9 * cs.length ≤ (csN cs).length
  | [] => by simp [csN]
  | x :: cs => by
    have h := csN_ge cs
    unfold csN at h ⊢
    rw [List.flatMap_cons, List.length_append, List.length_append, numL_len, List.length_cons]
    omega
theorem bag_wt {W : Int} {cs : List C2} (h : okBag W cs = true) : wtb cs ≤ 1213 * cs.length ∧ 9 * cs.length ≤ (putB W cs).size := by
  refine ⟨?_, ?_⟩
  · obtain ⟨_, _, hl, hr⟩ := okBag_facts h
    have h3 : okCs W none cs = true := by simp only [okBag, Bool.and_eq_true] at h; exact h.2
    have : wtcs cs ≤ 1212 * cs.length := wtcs_ok fun x hx => by
      have ho := okCs_mem h3 x hx
      simp only [okRow, Bool.and_eq_true] at ho
      have h4 := wts_ok (vs := x.r) (List.all_eq_true.1 ho.2)
      have h5 := hr x hx
      unfold wt
      omega
    unfold wtb
    omega
  · unfold putB
    rw [if_pos h, nums_size]
    have := csN_ge cs
    simp [bagN]
    omega
theorem rels_wt : ∀ rs : List R3, (∀ r ∈ rs, okBag r.W r.cs = true) → wtR rs ≤ 135 * (rlsL rs).length
  | [], _ => by simp [wtR, wtrs]
  | r :: rs, h => by
    have ih := rels_wt rs fun y hy => h y (by simp [hy])
    obtain ⟨h1, h2⟩ := bag_wt (h r (by simp))
    have e : (rlL r).length = 2 + r.s.size + (4 + (putB r.W r.cs).size) := by unfold rlL; rw [List.length_append, tN_len, tN_len]
    have e2 : (rlsL (r :: rs)).length = (rlL r).length + (rlsL rs).length := by unfold rlsL; rw [List.flatMap_cons, List.length_append]
    unfold wtR wtrs at ih ⊢
    rw [List.map_cons, List.sum_cons, List.length_cons]
    unfold wtr at ih ⊢
    omega
theorem csL_ge : ∀ cs : List ByteArray, 2 * cs.length ≤ (csL cs).length
  | [] => by simp [csL]
  | c :: cs => by
    have h := csL_ge cs
    unfold csL at h ⊢
    rw [List.flatMap_cons, List.length_append, tN_len, List.length_cons]
    omega
theorem okStep_bags {x : T5} (h : okStep x = true) : ∀ r ∈ x.rs, okBag r.W r.cs = true := by
  have emp : x.rs.isEmpty = true → ∀ r ∈ x.rs, okBag r.W r.cs = true := fun e r hr => by rw [List.isEmpty_iff.1 e] at hr; cases hr
  unfold okStep at h
  split at h
  · simp only [Bool.and_eq_true] at h; exact emp h.2
  split at h
  · simp only [Bool.and_eq_true] at h; exact emp h.2
  split at h
  · simp only [Bool.and_eq_true] at h; exact emp h.2
  split at h
  · simp only [Bool.and_eq_true] at h
    have h2 := h.2
    unfold okRels at h2
    rw [Bool.and_eq_true] at h2
    exact fun r hr => (okTs_each h2.2 r hr).2
  · cases h
theorem step_wt {x : T5} (h : okStep x = true) : mb x ≤ 900 * (stepL x).length := by
  have h1 := rels_wt x.rs (okStep_bags h)
  have h2 := csL_ge x.cs
  have e : (stepL x).length = 1 + (2 + x.s.size) + 1 + (csL x.cs).length + (2 + x.q.size) + 1 + (rlsL x.rs).length := by
    unfold stepL mdL hdL
    simp only [List.length_append, szN_len, tN_len]
  unfold mb
  omega
theorem gT_wt {t : ByteArray} (h : gO t = true) : mb (gT t) ≤ 900 * t.size := by
  have hs : sO t t.size (0, false) = true := h
  obtain ⟨h1, h2⟩ := sO_at hs
  have h3 : (sE t t.size (0, false)).2.2 = false := by unfold sT at h1; simp at h1; exact h1.1
  obtain ⟨_, h4⟩ := (step_same t h3).2 h
  have h5 : okStep (sX t t.size (0, false)) = true := by unfold sO at hs; rw [Bool.and_eq_true] at hs; exact hs.2
  have e : gT t = sX t t.size (0, false) := if_pos hs
  have e2 : t.size = (stepL (sX t t.size (0, false))).length := by
    have h6 := congrArg ByteArray.size h4
    unfold putT at h6
    rw [if_pos h5, nums_size] at h6
    exact h6.symm
  rw [e]
  have := step_wt h5
  omega
theorem lX_wt {s : ByteArray} {a : Nat} (h : okM s a = true) : mb (lX s a) ≤ 900 * (lN s a - a) := by
  obtain ⟨h1, h2, h3⟩ := okM_at h
  have hg : gO (s.extract (lB s a).2.1 (lN s a)) = true := by
    unfold okM at h
    rw [Bool.and_eq_true] at h
    exact h.2
  have h4 := gT_wt hg
  have h5 : a ≤ (lB s a).2.1 := Nat.le_trans (tk_ge (s := s) (e := s.size) (n := 4) (q := (a, false))) (tk_ge (s := s) (e := s.size) (n := 4) (q := (lA s a).2))
  have h6 : (s.extract (lB s a).2.1 (lN s a)).size ≤ lN s a - a := by rw [ByteArray.size_extract]; omega
  have h7 : 900 * (s.extract (lB s a).2.1 (lN s a)).size ≤ 900 * (lN s a - a) := Nat.mul_le_mul_left _ h6
  exact Nat.le_trans h4 h7
theorem rdL_wt (s : ByteArray) : ∀ k a, a ≤ s.size → mbs (rdL s k a).1 ≤ 900 * (s.size - a)
  | 0, a, _ => by simp [rdL, mbs]
  | k + 1, a, ha => by
    cases h : okM s a with
    | false => rw [rdL_no h]; simp [mbs]
    | true =>
      obtain ⟨h1, h2, _⟩ := okM_at h
      have ih := rdL_wt s k (lN s a) h2
      have h3 := lX_wt h
      rw [rdL_yes h]
      unfold mbs at ih ⊢
      simp only [List.map_cons, List.sum_cons]
      omega
theorem rlT_wt (s : ByteArray) : mbs (rlT s) ≤ 90000000 := by
  unfold rlT
  split
  · have := rdL_wt s s.size 0 (Nat.zero_le _)
    omega
  · simp [mbs]
end Go.Proofs.YtlobjpdkjlmglaaGreat
/- Own text. The walk of the statement on ReadLog. -/
namespace Go.Proofs.YtlobjpdkjlmglaaGreat.fnExactReadLog
open Go.RowKit Go.Deep
set_option linter.unusedVariables false
set_option maxHeartbeats 4000000 in
set_option maxRecDepth 100000 in
theorem walk (s : ByteArray) (hm : s.size ≤ maxLen) (w : World) :
    Calls Tryz.prog 4 #[.string s] w fun e w' => e = .returned (.bool true) ∧ Below w.heap.size w w' := by
  by_cases hbig : 1048576 < s.size
  · have hbI : (1048576 : Int) < s.size := by omega
    clear hbig
    go_enter Tryz.func4, Tryz.ntmps4
    go_wp2_with fail
    go_returns
    exact ⟨rfl, Below.refl _ _⟩
  have hs : s.size ≤ 1048576 := by omega
  have hsI : decide ((1048576 : Int) < s.size) = false := by simp; omega
  have hsp := specReadLog_any s w hs
  have him := fun w' => implReadLog_any s w' hs
  unfold RlOut at hsp him
  have hn := rlT_wt s
  generalize rlT s = ts at *
  generalize rlE s = ee at *
  clear hbig hm
  go_enter Tryz.func4, Tryz.ntmps4
  go_wp2_with fail
  refine hsp.mono ?_
  rintro e w1 ⟨⟨v1, us1, G1, rfl, hO1⟩, hb1⟩
  obtain ⟨a1, c1, rfl⟩ := hO1.shape
  obtain ⟨F1, hF1, _⟩ := hO1.stsF
  have hS1 := hF1.is
  have hz1 := hb1.size
  clear hsp hO1 hF1
  go_wp2_with fail
  refine (him _).mono ?_
  rintro e w2 ⟨⟨v2, us2, G2, rfl, hO2⟩, hb2⟩
  obtain ⟨a2, c2, rfl⟩ := hO2.shape
  obtain ⟨F, hF, hOF⟩ := hO2.stsF
  have hz2 := hb2.size
  have hS2 := hS1.below hb2
  have hBw2 : Below w.heap.size w w2 := hb1.trans (hb2.mono hz1)
  have hge : ∀ b ∈ F, w1.heap.size ≤ b := hOF.2.1
  clear hO2
  go_wp2_with fail
  refine Calls.mono (eqStepS_same (.slice a2 ts.length c2) (.slice a1 ts.length c1) ts w2 hF.is hS2) ?_
  rintro e w3 ⟨rfl, hb3⟩
  have hz3 := hb3.size
  have hF3 := hF.below hb3
  have hOF3 := hOF.below hF.lt hb3
  have hB13 : Below w1.heap.size w1 w3 := hb2.trans (hb3.mono hz2)
  clear hb3 hF hOF hS2
  go_wp2_with fail
  refine Calls.mono (markStepS_any 1 (.slice a2 ts.length c2) ts F w3 hF3 hOF3.1 hOF3.2.2 (by decide) (by omega)) ?_
  rintro e w4 ⟨rfl, hM4, hc4⟩
  have hz4 := hc4.size
  have hB14 : Below w1.heap.size w1 w4 := hB13.trans (hc4.below hge (by omega))
  have hheld := fun w' (h : StsF w' (.slice a2 ts.length c2) (mTs 1 ts) F) => heldStepS_any 1 (.slice a2 ts.length c2) ts F w' h (by decide) (by omega)
  have hkn : (0 : Int) ≤ (offT 1 ts ts.length : Int) := Int.natCast_nonneg _
  generalize ((offT 1 ts ts.length : Nat) : Int) = kg at *
  have hkn2 : ¬ (kg < 0) := by omega
  clear hc4 hF3 hOF3 hB13 hge
  go_wp2_with fail
  refine Calls.mono (hheld w4 hM4) ?_
  rintro e w5 ⟨rfl, hb5⟩
  have hz5 := hb5.size
  have hM5 := hM4.below hb5
  have hB15 : Below w1.heap.size w1 w5 := hB14.trans (hb5.mono (by omega))
  clear hb5 hM4 hB14
  go_wp2_with fail
  refine (him w5).mono ?_
  rintro e w6 ⟨⟨v6, us6, G6, rfl, hO6⟩, hb6⟩
  obtain ⟨a6, c6, rfl⟩ := hO6.shape
  obtain ⟨F6, hF6, _⟩ := hO6.stsF
  have hz6 := hb6.size
  have hM6 := hM5.below hb6
  have hB16 : Below w1.heap.size w1 w6 := hB15.trans (hb6.mono (by omega))
  have hI6 := hF6.is
  have hS6 := hS1.below hB16
  clear hb6 hM5 hB15 him hO6 hF6
  go_wp2_with fail
  refine Calls.mono (eqStepS_same (.slice a6 ts.length c6) (.slice a1 ts.length c1) ts w6 hI6 hS6) ?_
  rintro e w7 ⟨rfl, hb7⟩
  have hz7 := hb7.size
  have hM7 := hM6.below hb7
  have hB17 : Below w1.heap.size w1 w7 := hB16.trans (hb7.mono (by omega))
  clear hb7 hM6 hB16 hI6 hS6
  go_wp2_with fail
  refine Calls.mono (hheld w7 hM7) ?_
  rintro e w8 ⟨rfl, hb8⟩
  have hB18 : Below w1.heap.size w1 w8 := hB17.trans (hb8.mono (by omega))
  have bel : Below w.heap.size w w8 := hb1.trans (hB18.mono hz1)
  clear hb8 hM7 hB17 hheld hB18 hb1 hb2 hS1
  go_wp2
  go_returns
  exact ⟨rfl, bel⟩
end Go.Proofs.YtlobjpdkjlmglaaGreat.fnExactReadLog
