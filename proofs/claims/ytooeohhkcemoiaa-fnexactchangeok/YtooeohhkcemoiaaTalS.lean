/- Own text. The rows of a tally in order: the contract of slices.SortFunc at counted rows. -/
import Derived.Test.YtooeohhkcemoiaaTalA
import Derived.Test.YtooeohhkcemoiaaCmpD
import Derived.Test.YtooeohhkcemoiaaShelf
import Derived.Shelf.SlSortCmp.WholeK
import Derived.Lib.QuietBelow
import Derived.Handy
namespace Go.Proofs.Ytooeohhkcemoiaa
open Go.RowKit Go.Sort Go.Shelf Go.Lib
set_option linter.unusedVariables false
/-- a row that lay in w0, in blocks below b, with its number. -/
abbrev RowT (w0 : World) (b : Nat) := { p : Value × C2 // RowB w0 b p.1 p.2.r ∧ p.2.r.length ≤ 1048576 }
def rowT0 (w0 : World) (b : Nat) : RowT w0 b := ⟨(.slice none 0 0, ⟨[], 0⟩), ⟨[], ⟨none, 0, rfl, by simp, by simp, fun _ => rfl, fun _ => rfl, fun h => absurd rfl h⟩, fun x hx => (by cases hx)⟩, by simp⟩
def encT {w0 : World} {b : Nat} (x : RowT w0 b) : List Value := [x.1.1, .int .i64 x.1.2.n]
def cfT {w0 : World} {b : Nat} (x y : RowT w0 b) : Int := cmpRow x.1.2.r y.1.2.r
theorem encT_one {w0 : World} {b : Nat} (x : RowT w0 b) : ∀ v ∈ encT x, v.oneCell' = true := by
  intro v hv
  obtain ⟨⟨u, c⟩, ⟨g, ⟨a, n, e, _⟩, _⟩, _⟩ := x
  simp only [encT, List.mem_cons, List.not_mem_nil, or_false] at hv
  rcases hv with rfl | rfl
  · dsimp only at e; rw [e]; rfl
  · rfl
theorem cmpRow_nlt {a c : List V3} (h : ¬ cmpRow a c < 0) : a = c ∨ cmpRow c a < 0 := by
  by_cases e : a = c
  · exact .inl e
  · exact .inr (gt_of h e)
theorem ltT {w0 : World} {b : Nat} (x y : RowT w0 b) : ltOf cfT x y = true ↔ cmpRow x.1.2.r y.1.2.r < 0 := by unfold ltOf cfT; exact decide_eq_true_iff
theorem ltF {w0 : World} {b : Nat} (x y : RowT w0 b) : ltOf cfT x y = false ↔ ¬ cmpRow x.1.2.r y.1.2.r < 0 := by rw [← ltT]; simp
theorem cfT_swo {w0 : World} {b : Nat} : SWO (ltOf (cfT (w0 := w0) (b := b))) := by
  refine ⟨fun x => ?_, fun x y z h1 h2 => ?_, fun x y z h1 h2 => ?_⟩
  · rw [ltF, cmpRow_irr]; omega
  · rw [ltT] at *; exact cmpRow_trans h1 h2
  · rw [ltF] at *
    intro h3
    rcases cmpRow_nlt h1 with e | e
    · rw [← e] at h2; exact h2 h3
    · exact h2 (cmpRow_trans e h3)
theorem mapBlock_other (w : World) (blk k : Nat) (f : Array Value → Array Value) (h : k ≠ blk) : (mapBlock w blk f).heap[k]? = w.heap[k]? := by
  simp only [mapBlock, Array.getElem?_modify]
  rw [if_neg (fun e => h e.symm)]
theorem sortWorld_kept {α : Type} [Inhabited α] (enc : α → List Value) (w : World) (blk off m : Nat) (dk : Array α) (os : Array Obj) :
    (sortWorldK enc 2 w blk off m dk os).os = w.os ∧ (sortWorldK enc 2 w blk off m dk os).tape = w.tape ∧ (sortWorldK enc 2 w blk off m dk os).output = w.output ∧ w.heap.size ≤ (sortWorldK enc 2 w blk off m dk os).heap.size ∧
    ∀ k, k < w.heap.size → k ≠ blk → (sortWorldK enc 2 w blk off m dk os).heap[k]? = w.heap[k]? := by
  refine ⟨rfl, rfl, rfl, size_sortWorldK_c enc 2 w blk off m dk os, fun k hk hne => ?_⟩
  unfold sortWorldK
  rw [heap_grow_old _ _ (by rw [size_putRowK]; exact hk)]
  exact mapBlock_other _ _ _ _ hne
theorem onw_grow {w w' : World} (h : Onw w w') : ∃ q os', w' = grow (w.drewN q) os' := by
  obtain ⟨⟨d, os⟩, e⟩ := regrown_of_below h.1
  have hd : w'.drawn = d := by rw [e]; rfl
  refine ⟨d - w.drawn, os, ?_⟩
  rw [e]
  have h2 := h.2
  rw [hd] at h2
  show grow { w with drawn := d } os = grow { w with drawn := w.drawn + (d - w.drawn) } os
  rw [Nat.add_sub_cancel' h2]
set_option maxHeartbeats 2000000 in
/-- slices.SortFunc by CompareRow: the rows in another order, ascending; nothing else that lay has turned. -/
theorem sortT_any (w0 w : World) (b blk cap : Nat) (hb : Below b w0 w) (hbb : b ≤ blk) (hblk : blk < w.heap.size) (ds : List (RowT w0 b)) (hlen : ds.length ≤ 4194304)
    (hH : ∀ (i : Nat) (x : RowT w0 b), ds[i]? = some x → w.cell? ⟨blk, i * 2, none⟩ = some x.1.1 ∧ w.cell? ⟨blk, i * 2 + 1, none⟩ = some (.int .i64 x.1.2.n)) (hF : ∀ o, w.frozen? ⟨blk, o, none⟩ = false) :
    Calls Try.prog 64 #[.slice (some ⟨blk, 0, none⟩) ds.length cap, .func (.func 65) #[] #[]] w fun e w' => e = .returned (.tuple #[]) ∧
      ∃ ds' : List (RowT w0 b), ds'.Perm ds ∧ (ds'.Pairwise fun x y => ¬ cmpRow y.1.2.r x.1.2.r < 0) ∧ (∀ (i : Nat) (x : RowT w0 b), ds'[i]? = some x → w'.cell? ⟨blk, i * 2, none⟩ = some x.1.1 ∧ w'.cell? ⟨blk, i * 2 + 1, none⟩ = some (.int .i64 x.1.2.n)) ∧
      w'.os = w.os ∧ w'.tape = w.tape ∧ w'.output = w.output ∧ w.heap.size ≤ w'.heap.size ∧ ∀ k, k < w.heap.size → k ≠ blk → w'.heap[k]? = w.heap[k]? := by
  letI : Inhabited (RowT w0 b) := ⟨rowT0 w0 b⟩
  have eg : ∀ args w, (callFunc 65 args).run Try.prog w = .ok (.enter 65 args) w := enters_of Try.func65 (by kernel_rfl) rfl
  have hcmp : CmpLays Try.prog 65 #[] (encT (w0 := w0) (b := b)) 2 cfT blk 0 ds.toArray.size w := by
    intro m os dk _ x y
    have hk := sortWorld_kept (encT (w0 := w0) (b := b)) w blk 0 m dk os
    generalize sortWorldK encT 2 w blk 0 m dk os = W at hk ⊢
    have hbW : Below b w W := ⟨hk.1, hk.2.1, hk.2.2.1, hk.2.2.2.1, fun k hk1 => hk.2.2.2.2 k (by omega) (by omega)⟩
    have hx : RowIs W x.1.1 x.1.2.r := by obtain ⟨g, hg, _⟩ := x.2.1.below (hb.trans hbW); exact hg.is
    have hy : RowIs W y.1.1 y.1.2.r := by obtain ⟨g, hg, _⟩ := y.2.1.below (hb.trans hbW); exact hg.is
    refine Calls.mono (ascCmp_any x.1.1 y.1.1 x.1.2.r y.1.2.r x.1.2.n y.1.2.n W hx hy) ?_
    rintro e w' ⟨rfl, hO⟩
    exact ⟨rfl, onw_grow hO⟩
  have hH' : HoldsK (encT (w0 := w0) (b := b)) 2 w blk 0 ds.toArray := by
    intro j hj
    rw [size_flatK] at hj
    refine ⟨?_, hF _⟩
    rw [get_flatK _ _ _ _ hj]
    have hj2 : j / 2 < ds.length := by simp at hj; omega
    have hx : ds[j / 2]? = some ds[j / 2] := by simp [hj2]
    obtain ⟨h0, h1⟩ := hH (j / 2) ds[j / 2] hx
    have he : ds.toArray[j / 2]! = ds[j / 2] := by simp [hj2]
    rw [he]
    rcases Nat.mod_two_eq_zero_or_one j with e | e
    · have : 0 + j = j / 2 * 2 := by omega
      rw [this, h0, e]; rfl
    · have : 0 + j = j / 2 * 2 + 1 := by omega
      rw [this, h1, e]; rfl
  have hcon := AnyQ.slices_SortFunc Try.laysSort 2 Try.isAgg53 Try.sizeOf53 (encT (w0 := w0) (b := b)) (fun _ => rfl) encT_one cfT cfT_swo 65 #[] blk 0 cap ds.toArray w eg hcmp hH' hblk (by simp; omega)
  change Calls Try.prog 64 _ _ _ at hcon
  have hsz : ds.toArray.size = ds.length := by simp
  rw [hsz] at hcon
  refine Calls.mono hcon ?_
  rintro e w' ⟨rfl, d', n, os, hp, hs, rfl⟩
  have hk := sortWorld_kept (encT (w0 := w0) (b := b)) w blk 0 n d' os
  have hds : d'.size = ds.length := by rw [hp.1]; simp
  have hhold   := holdsK_sortWorldK_c (encT (w0 := w0) (b := b)) 2 w blk 0 ds.toArray d' n os hH' hblk (by rw [hds]; simp)
  refine ⟨rfl, d'.toList, ?_, ?_, ?_, hk.1, hk.2.1, hk.2.2.1, hk.2.2.2.1, hk.2.2.2.2⟩
  · have h3 := hp.2.2
    rw [Array.extract_eq_self_of_le (by omega), Array.extract_eq_self_of_le (by simp)] at h3
    simpa using h3
  · rw [List.pairwise_iff_getElem]
    intro i j hi hj hij
    have hi' : i < d'.size := by simpa using hi
    have hj' : j < d'.size := by simpa using hj
    have h4 := hs i j (Nat.zero_le _) hij (by omega)
    rw [getElem!_pos d' j hj', getElem!_pos d' i hi', ltF] at h4
    simpa using h4
  · intro i x hx
    obtain ⟨hi, rfl⟩ := List.getElem?_eq_some_iff.1 hx
    have hi' : i < d'.size := by simpa using hi
    have c0 := hhold.cell hi' (show 0 < 2 by decide)
    have c1 := hhold.cell hi' (show 1 < 2 by decide)
    rw [getElem!_pos d' i hi'] at c0 c1
    constructor
    · simpa [encT] using c0.1
    · simpa [encT] using c1.1
end Go.Proofs.Ytooeohhkcemoiaa
