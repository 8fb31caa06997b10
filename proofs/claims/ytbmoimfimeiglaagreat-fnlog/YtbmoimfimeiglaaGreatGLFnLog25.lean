/- Own texts, joined: contracts that the law's proof goes by. -/
import Derived.Test.YtbmoimfimeiglaaGreatGLFnLog12
import Derived.Handy
import Derived.Test.YtbmoimfimeiglaaGreatGLFnLog17
import Derived.Test.YtbmoimfimeiglaaGreatGLFnLog4
namespace Go.Proofs.YtbmoimfimeiglaaGreat
open Go.RowKit Go.Deep
set_option linter.unusedVariables false
theorem Tryz.infoCnt : (Tryz.prog.info? 112).map (fun i => (i.zero, i.size, i.bytes)) = some (some (.agg #[.slice none 0 0, .int .i64 0]), 2, 32) := by kernel_rfl
structure HalfB (w : World) (B0 : Nat) (cs : List C2) (g : Nat → Nat) (k : Nat) : Prop where
  own : ∃ f, w.rowIs B0 112 (cs.length * 2) f ∧ ∀ i x, i < k → cs[i]? = some x → f (i * 2) = .slice (some ⟨g i, 0, none⟩) x.r.length x.r.length ∧ f (i * 2 + 1) = .int .i64 x.n
  row : ∀ i x, i < k → cs[i]? = some x → w.rowIs (g i) 119 (x.r.length * 3) (cf x.r)
  above : ∀ i, i < k → B0 < g i
  up : ∀ i j, i < j → j < k → g i < g j
theorem HalfB.cells {w : World} {B : Nat} {cs : List C2} {g : Nat → Nat} {k : Nat} (h : HalfB w B cs g k) (hk : k < cs.length) :
    (∃ u, w.cell? ⟨B, k * 2, none⟩ = some u) ∧ (∃ u, w.cell? ⟨B, k * 2 + 1, none⟩ = some u) ∧ (∀ i, w.frozen? ⟨B, i, none⟩ = false) ∧ B < w.heap.size := by
  obtain ⟨f, h, _⟩ := h.own
  exact ⟨⟨_, h.cell (by omega)⟩, ⟨_, h.cell (by omega)⟩, fun i => h.frozen i, h.lt⟩
theorem HalfB.lt {w : World} {B : Nat} {cs : List C2} {g : Nat → Nat} {k : Nat} (h : HalfB w B cs g k) (hk : k ≤ cs.length) {i : Nat} (hi : i < k) : g i < w.heap.size := (h.row i cs[i] hi (by simp)).lt
theorem HalfB.below {w w' : World} {B : Nat} {cs : List C2} {g : Nat → Nat} {k : Nat} (h : HalfB w B cs g k) (hk : k ≤ cs.length) (hb : Below w.heap.size w w') : HalfB w' B cs g k := by
  obtain ⟨⟨f, hf, he⟩, h1, h2, h3⟩ := h
  exact ⟨⟨f, hf.of_block (hb.block _ hf.lt), he⟩, fun i x hi hx => (h1 i x hi hx).of_block (hb.block _ (h1 i x hi hx).lt), h2, h3⟩
theorem HalfB.keep {w w' : World} {B : Nat} {cs : List C2} {g : Nat → Nat} {k : Nat} (h : HalfB w B cs g k) (hk : k ≤ cs.length) (e : ∀ b, B ≤ b → w'.heap[b]? = w.heap[b]?) : HalfB w' B cs g k := by
  obtain ⟨⟨f, hf, he⟩, h1, h2, h3⟩ := h
  exact ⟨⟨f, hf.of_block (e _ (Nat.le_refl _)), he⟩, fun i x hi hx => (h1 i x hi hx).of_block (e _ (Nat.le_of_lt (h2 i hi))), h2, h3⟩
theorem HalfB.step {w : World} {B D : Nat} {cs : List C2} {g : Nat → Nat} {k : Nat} {x : C2} (h : HalfB w B cs g k) (hx : cs[k]? = some x) (hD : w.rowIs D 119 (x.r.length * 3) (cf x.r)) (hB : B < D) (hup : ∀ i, i < k → g i < D) :
    HalfB ((w.setCell ⟨B, k * 2, none⟩ (.slice (some ⟨D, 0, none⟩) x.r.length x.r.length)).setCell ⟨B, k * 2 + 1, none⟩ (.int .i64 x.n)) B cs (fun i => if i = k then D else g i) (k + 1) := by
  obtain ⟨⟨f, hf, he⟩, h1, h2, h3⟩ := h
  refine ⟨⟨_, (hf.set _ _).set _ _, fun i y hi hy => ?_⟩, fun i y hi hy => ?_, fun i hi => ?_, fun i j hij hj => ?_⟩
  · by_cases e : i = k
    · subst e
      obtain rfl : y = x := by rw [hx] at hy; exact (Option.some.inj hy).symm
      simp
    · have e1 : i * 2 ≠ k * 2 := by omega
      have e2 : i * 2 ≠ k * 2 + 1 := by omega
      have e3 : i * 2 + 1 ≠ k * 2 := by omega
      have e4 : i * 2 + 1 ≠ k * 2 + 1 := by omega
      simp only [if_neg e1, if_neg e2, if_neg e3, if_neg e4, if_neg e]
      exact he i y (by omega) hy
  · by_cases e : i = k
    · subst e
      obtain rfl : y = x := by rw [hx] at hy; exact (Option.some.inj hy).symm
      simp only [if_true]
      exact (hD.setOther (by show D ≠ B; omega) _).setOther (by show D ≠ B; omega) _
    · simp only [if_neg e]
      have := h2 i (by omega)
      exact ((h1 i y (by omega) hy).setOther (by show g i ≠ B; omega) _).setOther (by show g i ≠ B; omega) _
  · by_cases e : i = k
    · simp only [if_pos e]; exact hB
    · simp only [if_neg e]; exact h2 i (by omega)
  · by_cases e : j = k
    · have e' : i ≠ k := by omega
      simp only [if_pos e, if_neg e']; exact hup i (by omega)
    · have e' : i ≠ k := by omega
      simp only [if_neg e, if_neg e']; exact h3 i j hij (by omega)
end Go.Proofs.YtbmoimfimeiglaaGreat
namespace Go.Proofs.YtbmoimfimeiglaaGreat
open Go.RowKit Go.Deep
set_option linter.unusedVariables false
def HalfR (w : World) (B0 : Nat) (rs : List R3) (k : Nat) : Prop :=
  ∃ f, w.rowIs B0 73 (rs.length * 3) f ∧ ∀ i x, i < k → rs[i]? = some x → f (i * 3) = .string x.s ∧ f (i * 3 + 1) = .int .i64 x.W ∧ ∃ B g, B0 < B ∧ f (i * 3 + 2) = .slice (some ⟨B, 0, none⟩) x.cs.length x.cs.length ∧ HalfB w B x.cs g x.cs.length
theorem HalfR.cells {w : World} {B : Nat} {rs : List R3} {k : Nat} (h : HalfR w B rs k) (hk : k < rs.length) :
    (∃ u, w.cell? ⟨B, k * 3, none⟩ = some u) ∧ (∃ u, w.cell? ⟨B, k * 3 + 1, none⟩ = some u) ∧ (∃ u, w.cell? ⟨B, k * 3 + 2, none⟩ = some u) ∧ (∀ i, w.frozen? ⟨B, i, none⟩ = false) ∧ B < w.heap.size := by
  obtain ⟨f, h, _⟩ := h
  exact ⟨⟨_, h.cell (by omega)⟩, ⟨_, h.cell (by omega)⟩, ⟨_, h.cell (by omega)⟩, fun i => h.frozen i, h.lt⟩
theorem HalfR.below {w w' : World} {B : Nat} {rs : List R3} {k : Nat} (h : HalfR w B rs k) (hb : Below w.heap.size w w') : HalfR w' B rs k := by
  obtain ⟨f, hf, he⟩ := h
  refine ⟨f, hf.of_block (hb.block _ hf.lt), fun i x hi hx => ?_⟩
  obtain ⟨h0, h1, B, g, hB, h2, hH⟩ := he i x hi hx
  exact ⟨h0, h1, B, g, hB, h2, hH.below (Nat.le_refl _) hb⟩
theorem HalfR.step {w : World} {B D : Nat} {rs : List R3} {g : Nat → Nat} {k : Nat} {x : R3} (h : HalfR w B rs k) (hx : rs[k]? = some x) (hD : HalfB w D x.cs g x.cs.length) (hB : B < D) :
    HalfR (((w.setCell ⟨B, k * 3, none⟩ (.string x.s)).setCell ⟨B, k * 3 + 1, none⟩ (.int .i64 x.W)).setCell ⟨B, k * 3 + 2, none⟩ (.slice (some ⟨D, 0, none⟩) x.cs.length x.cs.length)) B rs (k + 1) := by
  obtain ⟨f, hf, he⟩ := h
  have hblk : ∀ b, B < b → (((w.setCell ⟨B, k * 3, none⟩ (.string x.s)).setCell ⟨B, k * 3 + 1, none⟩ (.int .i64 x.W)).setCell ⟨B, k * 3 + 2, none⟩ (.slice (some ⟨D, 0, none⟩) x.cs.length x.cs.length)).heap[b]? = w.heap[b]? := by
    intro b hb
    repeat rw [Below.heap_setCell _ _ _ _ (by show b ≠ B; omega)]
  refine ⟨_, ((hf.set _ _).set _ _).set _ _, fun i y hi hy => ?_⟩
  by_cases e : i = k
  · subst e
    obtain rfl : y = x := by rw [hx] at hy; exact (Option.some.inj hy).symm
    refine ⟨by simp, by simp, D, g, hB, by simp, hD.keep (Nat.le_refl _) fun b hb => hblk b (by omega)⟩
  · have n : ∀ p q : Nat, p < 3 → q < 3 → i * 3 + p ≠ k * 3 + q := by intro p q hp hq; omega
    have n0 : ∀ q : Nat, q < 3 → i * 3 ≠ k * 3 + q := by intro q hq; omega
    have n1 : ∀ p : Nat, p < 3 → i * 3 + p ≠ k * 3 := by intro q hq; omega
    have n2 : i * 3 ≠ k * 3 := by omega
    obtain ⟨h0, h1, D', g', hB', h2, hH⟩ := he i y (by omega) hy
    refine ⟨?_, ?_, D', g', hB', ?_, hH.keep (Nat.le_refl _) fun b hb => hblk b (by omega)⟩
    · simp only [if_neg n2, if_neg (n0 1 (by omega)), if_neg (n0 2 (by omega))]; exact h0
    · simp only [if_neg (n1 1 (by omega)), if_neg (n 1 1 (by omega) (by omega)), if_neg (n 1 2 (by omega) (by omega))]; exact h1
    · simp only [if_neg (n1 2 (by omega)), if_neg (n 2 1 (by omega) (by omega)), if_neg (n 2 2 (by omega) (by omega))]; exact h2
end Go.Proofs.YtbmoimfimeiglaaGreat
namespace Go.Proofs.YtbmoimfimeiglaaGreat
open Go.RowKit Go.Deep
set_option linter.unusedVariables false
theorem HalfB.rowsF {w : World} {B : Nat} {cs : List C2} {g : Nat → Nat} (h : HalfB w B cs g cs.length) (hl : ∀ x ∈ cs, x.r.length ≤ maxLen) (hm : cs.length ≤ maxLen) : ∃ F, RowsF w (.slice (some ⟨B, 0, none⟩) cs.length cs.length) cs F ∧ Own w B F := by
  obtain ⟨f, hf, he⟩ := h.own
  by_cases hne : cs = []
  · exact ⟨[], ⟨_, _, [], rfl, Nat.le_refl _, hm, (fun x => by cases x), by rw [hne]; rfl, fun _ => rfl, fun x => absurd hne x⟩, by simp [Own, Free]⟩
  let G : List (List Nat) := (List.range cs.length).map fun i => if (cs.getD i ⟨[], 0⟩).r = [] then [] else [g i]
  have hGl : G.length = cs.length := by simp [G]
  have hGi : ∀ i q, G[i]? = some q → i < cs.length ∧ q = if (cs.getD i ⟨[], 0⟩).r = [] then [] else [g i] := by
    intro i q hq
    have hi : i < cs.length := by have := (List.getElem?_eq_some_iff.1 hq).1; omega
    refine ⟨hi, ?_⟩
    simp [G, hi] at hq
    rw [← hq]
    simp [hi]
  have hmem : ∀ b ∈ G.flatten, ∃ i, i < cs.length ∧ b = g i := by
    intro b hb
    obtain ⟨q, hq, hbq⟩ := List.mem_flatten.1 hb
    obtain ⟨i, hi, rfl⟩ := List.mem_iff_getElem.1 hq
    obtain ⟨hi', e⟩ := hGi i G[i] (by simp)
    rw [e] at hbq
    split at hbq
    · cases hbq
    · exact ⟨i, hi', List.mem_singleton.1 hbq⟩
  refine ⟨B :: G.flatten, ⟨_, _, G, rfl, Nat.le_refl _, hm, (fun x => by cases x), hGl, fun x => absurd x hne, fun _ => ⟨B, 0, rfl, hf.lt, rfl, fun i x q hx hq => ?_⟩⟩, ?_, fun b hb => ?_, fun b hb o => ?_⟩
  · obtain ⟨hi, eq⟩ := hGi i q hq
    obtain ⟨e0, e1⟩ := he i x hi hx
    have ex : cs.getD i ⟨[], 0⟩ = x := by simp [List.getD, hx]
    rw [ex] at eq
    have hrow := h.row i x hi hx
    refine ⟨.slice (some ⟨g i, 0, none⟩) x.r.length x.r.length, by rw [Nat.zero_add, hf.cell (by omega), e0], ⟨_, _, rfl, Nat.le_refl _, hl x (List.mem_of_getElem? hx), (fun x => by cases x), fun e => by rw [eq, if_pos e], fun hn => ⟨g i, 0, rfl, hrow.lt, by rw [eq, if_neg hn], ?_⟩⟩, by rw [Nat.zero_add, hf.cell (by omega), e1]⟩
    refine lies_cells.2 fun j hj => ?_
    rw [Nat.zero_add]
    exact hrow.cell hj
  · refine List.nodup_cons.2 ⟨fun hb => ?_, ?_⟩
    · obtain ⟨i, hi, e⟩ := hmem B hb
      have := h.above i hi
      omega
    · rw [List.Nodup, List.pairwise_flatten]
      constructor
      · intro q hq
        obtain ⟨i, hi, rfl⟩ := List.mem_iff_getElem.1 hq
        obtain ⟨hi', e⟩ := hGi i G[i] (by simp)
        rw [e]
        split <;> simp
      · rw [List.pairwise_iff_getElem]
        intro i j hi hj hij x hx y hy
        obtain ⟨hi', ei⟩ := hGi i G[i] (by simp)
        obtain ⟨hj', ej⟩ := hGi j G[j] (by simp)
        rw [ei] at hx
        rw [ej] at hy
        split at hx
        · cases hx
        · split at hy
          · cases hy
          · have := h.up i j hij hj'
            have e1 := List.mem_singleton.1 hx
            have e2 := List.mem_singleton.1 hy
            omega
  · rcases List.mem_cons.1 hb with rfl | hb
    · exact Nat.le_refl _
    · obtain ⟨i, hi, rfl⟩ := hmem b hb
      exact Nat.le_of_lt (h.above i hi)
  · rcases List.mem_cons.1 hb with rfl | hb
    · exact hf.frozen o
    · obtain ⟨i, hi, rfl⟩ := hmem b hb
      exact (h.row i cs[i] hi (by simp)).frozen o
end Go.Proofs.YtbmoimfimeiglaaGreat
namespace Go.Proofs.YtbmoimfimeiglaaGreat
open Go.RowKit Go.Deep
set_option linter.unusedVariables false
structure HalfRF (w : World) (B0 : Nat) (rs : List R3) (k : Nat) (G : List (List Nat)) : Prop where
  row : ∃ f, w.rowIs B0 73 (rs.length * 3) f ∧ ∀ i x g, i < k → rs[i]? = some x → G[i]? = some g → f (i * 3) = .string x.s ∧ f (i * 3 + 1) = .int .i64 x.W ∧ RowsF w (f (i * 3 + 2)) x.cs g
  gl : G.length = k
  kl : k ≤ rs.length
  own : Own w (B0 + 1) G.flatten
theorem HalfRF.cells {w : World} {B : Nat} {rs : List R3} {k : Nat} {G : List (List Nat)} (h : HalfRF w B rs k G) (hk : k < rs.length) :
    (∃ u, w.cell? ⟨B, k * 3, none⟩ = some u) ∧ (∃ u, w.cell? ⟨B, k * 3 + 1, none⟩ = some u) ∧ (∃ u, w.cell? ⟨B, k * 3 + 2, none⟩ = some u) ∧ (∀ i, w.frozen? ⟨B, i, none⟩ = false) ∧ B < w.heap.size := by
  obtain ⟨f, h, _⟩ := h.row
  exact ⟨⟨_, h.cell (by omega)⟩, ⟨_, h.cell (by omega)⟩, ⟨_, h.cell (by omega)⟩, fun i => h.frozen i, h.lt⟩
theorem HalfRF.lt {w : World} {B : Nat} {rs : List R3} {k : Nat} {G : List (List Nat)} (h : HalfRF w B rs k G) : ∀ b ∈ G.flatten, b < w.heap.size := by
  intro b hb
  obtain ⟨g, hg, hbg⟩ := List.mem_flatten.1 hb
  obtain ⟨i, hi, rfl⟩ := List.mem_iff_getElem.1 hg
  have h1 := h.gl
  have h2 := h.kl
  obtain ⟨f, _, he⟩ := h.row
  have hi' : i < rs.length := by omega
  exact (he i rs[i] G[i] (by omega) (by simp) (by simp)).2.2.lt b hbg
theorem HalfRF.below {w w' : World} {B : Nat} {rs : List R3} {k : Nat} {G : List (List Nat)} (h : HalfRF w B rs k G) (hb : Below w.heap.size w w') : HalfRF w' B rs k G := by
  have hlt := h.lt
  obtain ⟨⟨f, hf, he⟩, gl, kl, own⟩ := h
  refine ⟨⟨f, hf.of_block (hb.block _ hf.lt), fun i x g hi hx hg => ?_⟩, gl, kl, own.below hlt hb⟩
  obtain ⟨h0, h1, h2⟩ := he i x g hi hx hg
  exact ⟨h0, h1, h2.below hb⟩
theorem HalfRF.step {w : World} {B : Nat} {rs : List R3} {k : Nat} {G : List (List Nat)} {x : R3} {u : Value} {g : List Nat} {M : Nat} (h : HalfRF w B rs k G) (hx : rs[k]? = some x) (hR : RowsF w u x.cs g) (hO : Own w M g) (hM : B < M) (hd : ∀ b ∈ G.flatten, b < M) :
    HalfRF (((w.setCell ⟨B, k * 3, none⟩ (.string x.s)).setCell ⟨B, k * 3 + 1, none⟩ (.int .i64 x.W)).setCell ⟨B, k * 3 + 2, none⟩ u) B rs (k + 1) (G ++ [g]) := by
  obtain ⟨⟨f, hf, he⟩, gl, kl, own⟩ := h
  have hblk : ∀ b, B < b → (((w.setCell ⟨B, k * 3, none⟩ (.string x.s)).setCell ⟨B, k * 3 + 1, none⟩ (.int .i64 x.W)).setCell ⟨B, k * 3 + 2, none⟩ u).heap[b]? = w.heap[b]? := by
    intro b hb
    repeat rw [Below.heap_setCell _ _ _ _ (by show b ≠ B; omega)]
  refine ⟨⟨_, ((hf.set _ _).set _ _).set _ _, fun i y g' hi hy hg' => ?_⟩, by simp [gl], (List.getElem?_eq_some_iff.1 hx).1, ?_⟩
  · by_cases e : i = k
    · subst e
      obtain rfl : y = x := by rw [hx] at hy; exact (Option.some.inj hy).symm
      obtain rfl : g' = g := by rw [List.getElem?_append_right (by omega), gl] at hg'; simp at hg'; exact hg'.symm
      refine ⟨by simp, by simp, ?_⟩
      simp only [if_true]
      exact hR.keep (by simp) fun b hb => hblk b (by have := hO.2.1 b hb; omega)
    · have n : ∀ p q : Nat, p < 3 → q < 3 → i * 3 + p ≠ k * 3 + q := by intro p q hp hq; omega
      have n0 : ∀ q : Nat, q < 3 → i * 3 ≠ k * 3 + q := by intro q hq; omega
      have n1 : ∀ p : Nat, p < 3 → i * 3 + p ≠ k * 3 := by intro q hq; omega
      have n2 : i * 3 ≠ k * 3 := by omega
      rw [List.getElem?_append_left (by omega)] at hg'
      obtain ⟨h0, h1, h2⟩ := he i y g' (by omega) hy hg'
      refine ⟨?_, ?_, ?_⟩
      · simp only [if_neg n2, if_neg (n0 1 (by omega)), if_neg (n0 2 (by omega))]; exact h0
      · simp only [if_neg (n1 1 (by omega)), if_neg (n 1 1 (by omega) (by omega)), if_neg (n 1 2 (by omega) (by omega))]; exact h1
      · simp only [if_neg (n1 2 (by omega)), if_neg (n 2 1 (by omega) (by omega)), if_neg (n 2 2 (by omega) (by omega))]
        exact h2.keep (by simp) fun b hb => hblk b (by have := own.2.1 b (List.mem_flatten.2 ⟨g', List.mem_of_getElem? hg', hb⟩); omega)
  · have hm : ∀ b ∈ (G ++ [g]).flatten, b ∈ G.flatten ∨ b ∈ g := by intro b hb; simpa using hb
    have hgt : ∀ b ∈ (G ++ [g]).flatten, B + 1 ≤ b := fun b hb => (hm b hb).elim (own.2.1 b) (fun h => by have := hO.2.1 b h; omega)
    refine Own.keep (w := w) ⟨?_, hgt, fun b hb => (hm b hb).elim (own.2.2 b) (hO.2.2 b)⟩ fun b hb => hblk b (hgt b hb)
    rw [List.flatten_append, List.nodup_append]
    refine ⟨own.1, by simpa using hO.1, fun a ha b hb => ?_⟩
    rintro rfl
    have h1 := hd a ha
    have h2 := hO.2.1 a (by simpa using hb)
    omega
theorem HalfRF.relsF {w : World} {B : Nat} {rs : List R3} {G : List (List Nat)} (h : HalfRF w B rs rs.length G) (hn : wtR rs ≤ 1048576) : ∃ F, RelsF w (.slice (some ⟨B, 0, none⟩) rs.length rs.length) rs F ∧ Own w B F := by
  obtain ⟨⟨f, hf, he⟩, gl, kl, own⟩ := h
  have hm : rs.length ≤ maxLen := by unfold wtR at hn; unfold maxLen; omega
  by_cases hne : rs = []
  · exact ⟨[], ⟨_, _, G, rfl, Nat.le_refl _, hm, (fun x => by cases x), gl, fun _ => rfl, fun x => absurd hne x⟩, by simp [Own, Free]⟩
  refine ⟨B :: G.flatten, ⟨_, _, G, rfl, Nat.le_refl _, hm, (fun x => by cases x), gl, fun x => absurd x hne, fun _ => ⟨B, 0, rfl, hf.lt, rfl, fun i x g hx hg => ?_⟩⟩, List.nodup_cons.2 ⟨fun hb => by have := own.2.1 B hb; omega, own.1⟩, fun b hb => ?_, fun b hb o => ?_⟩
  · have hi : i < rs.length := (List.getElem?_eq_some_iff.1 hx).1
    obtain ⟨e0, e1, e2⟩ := he i x g hi hx hg
    exact ⟨_, by rw [Nat.zero_add, hf.cell (by omega), e0], by rw [Nat.zero_add, hf.cell (by omega), e1], by rw [Nat.zero_add, hf.cell (by omega)], e2⟩
  · rcases List.mem_cons.1 hb with rfl | hb
    · exact Nat.le_refl _
    · have := own.2.1 b hb; omega
  · rcases List.mem_cons.1 hb with rfl | hb
    · exact hf.frozen o
    · exact own.2.2 b hb o
end Go.Proofs.YtbmoimfimeiglaaGreat
