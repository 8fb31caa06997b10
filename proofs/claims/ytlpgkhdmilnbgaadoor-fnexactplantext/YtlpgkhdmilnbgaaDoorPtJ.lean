/- Own text. The contract of impl.PlanText. -/
import Derived.Test.YtlpgkhdmilnbgaaDoorTlI1
import Derived.Test.YtlpgkhdmilnbgaaDoorTlI2
import Derived.Test.YtlpgkhdmilnbgaaDoorTlI3
import Derived.Test.YtlpgkhdmilnbgaaDoorTlI4
import Derived.Test.YtlpgkhdmilnbgaaDoorTlI5
import Derived.Test.YtlpgkhdmilnbgaaDoorTlI6
import Derived.WideMake
import Derived.Handy
namespace Go.Proofs.YtlpgkhdmilnbgaaDoor
open Go.RowKit Go.ChangeShapes Go.WideShapes
set_option linter.unusedVariables false
theorem tlI_any : ∀ f, TlI f
  | 0 => tlI_zero
  | f + 1 => by
    have ih := tlI_any f
    intro p b o ue us u g D d N T M y L S w hw hc hL hP hS hn hB hf hE hT
    by_cases h0 : p.k = 0
    · exact tlI_0 ih hw hc hL hP hS hn hB hf hE hT h0
    by_cases h1 : p.k = 1
    · exact tlI_1 ih hw hc hL hP hS hn hB hf hE hT h1
    by_cases h2 : p.k = 2
    · exact tlI_2 ih hw hc hL hP hS hn hB hf hE hT h2
    by_cases h3 : p.k = 3
    · exact tlI_3 ih hw hc hL hP hS hn hB hf hE hT h3
    by_cases h4 : p.k = 4
    · exact tlI_4 ih hw hc hL hP hS hn hB hf hE hT h4
    by_cases h5 : p.k = 5
    · exact tlI_5 ih hw hc hL hP hS hn hB hf hE hT h5
    by_cases h6 : p.k = 6
    · exact tlI_6 ih hw hc hL hP hS hn hB hf hE hT h6
    exact tlI_x ih hw hc hL hP hS hn hB hf hE hT h0 h1 h2 h3 h4 h5 h6
attribute [local go_sem] Go.run_makeMap_plain
theorem tl_new (w : World) {n : Nat} (h : w.heap.size = n) (o : Obj) : (w.alloc o).heap[n]? = some o := by subst h; exact heap_alloc_new w o
set_option maxRecDepth 100000 in
theorem conv_tl {w : World} {N : Nat} {v : Value} (L : List UInt8) (h : w.ownsRow N 5 1 v L.length (u8s L)) : (convert 50 9 v).run Tryd.prog w = .ok (.string (bs L)) w := by
  have h1 := h.1
  rcases h.2 with ⟨rfl, h0⟩ | ⟨g, cap, cur, rfl, hg, hc, hn, hm, hcs, htk⟩
  · have : L = [] := List.length_eq_zero_iff.1 h0
    subst this
    go_simp
    try rfl
  · have e := run_convert_bytes_arg w 50 5 Tryd.underlying50 Tryd.underlying5 g 0 L.length cap (L.map fun b => (b.toNat : Int)) (by simp) (fun i hi => by
      rw [Nat.zero_add, Lib.cell_of_heap hc, ← Array.getElem?_toList]
      have h2 : (u8s L)[i]? = some (.int .u8 (L[i].toNat : Int)) := by simp [u8s, hi]
      rw [← htk, List.getElem?_take] at h2
      split at h2
      · rw [h2]; simp [List.getD, hi]
      · cases h2) 9 Tryd.underlying9
    rw [e, Lib.Lz.strOfNums_map]
    rfl
set_option maxHeartbeats 4000000 in
set_option maxRecDepth 100000 in
theorem implPlanText_any (p : P12) (ue us u : Value) (g : List Nat) (D d : Nat) (w : World) (hw : p.wf) (hL : ListsP w D (PlansIs w D d) p ue us u g) (hO : g.Nodup ∧ ∀ x ∈ g, ∀ q, w.frozen? ⟨x, q, none⟩ = false) (hn : wtP p ≤ 1048576) (hE : Env w) :
    Calls Tryd.prog 7 #[(.agg #[.int .i64 p.k, .string p.s, .int .i64 p.e.k, .int .i64 p.e.n, .int .i64 p.e.v.k, .int .i64 p.e.v.n, .string p.e.v.s, .string p.e.p, ue, us, .int .i64 p.n, u])] w fun x w' => x = .returned (.string (bs (planT 21 p))) ∧ Below w.heap.size w w' := by
  have hgl := hL.lt
  have hT := fun T M y (w2 : World) (hb : Below w.heap.size w w2) (hc : cellsP w2 w.heap.size 0 p ue us u) (hf : ∀ q, w2.frozen? ⟨w.heap.size, q, none⟩ = false) (ht : Tl w2 (w.heap.size + 1) T M y [] (fun _ => False)) => tlI_any 21 p w.heap.size 0 ue us u g D d (w.heap.size + 1) T M y [] (fun _ => False) w2 hw hc (hL.below hb) ⟨List.nodup_cons.2 ⟨fun h => by have := hgl _ h; omega, hO.1⟩, fun x hx => by
    rcases List.mem_cons.1 hx with rfl | hx
    · exact ⟨by omega, hf⟩
    · exact ⟨by have := hgl _ hx; omega, fun q => (frozen_blk (hb.block x (hgl x hx))).trans (hO.2 x hx q)⟩⟩ (fun a ha => ha.elim) hn (by simp; omega) (Nat.le_refl _) (fun w3 hb3 => hE.below (hb.trans (hb3.mono (by omega)))) ht
  rw [show (21 : Int) - ((21 : Nat) : Int) = 0 from rfl] at hT
  obtain ⟨r, HR⟩ := hidT (planT 21 p)
  rw [HR.out] at hT ⊢
  obtain ⟨a_e, a_E, a_s, a_S, a_k, a_K, rfl, rfl, rfl, _, _, _, _, _, _⟩ := hL.shape
  clear hL hE hw hO hgl
  go_enter Tryd.func7, Tryd.ntmps7
  go_wp2_with fail
  refine Calls.mono (hT (w.heap.size + 1 + 1) (w.heap.size + 1) (.slice none 0 0) _ ?hb ?hc ?hf ?ht) ?_
  case hb => repeat (first | (with_reducible exact Below.refl _ _) | (with_reducible refine Below.drew ?_) | (with_reducible refine Below.alloc ?_ ?hh _; case hh => first | (simp; done) | (simp; omega) | omega) | (with_reducible refine Below.setCell ?_ ?hh _; case hh => first | (simp; done) | (simp; omega) | omega) | refine bstep (by assumption) (by first | (simp; done) | (simp; omega) | omega) ?_)
  case hc => refine ⟨?_, ?_, ?_, ?_, ?_, ?_, ?_, ?_, ?_, ?_, ?_, ?_⟩ <;> go_simp
  case hf => intro q; go_simp
  case ht =>
    refine ⟨by omega, by omega, ?_, World.ownsRow_nil _ _ _ _, #[], 0, ?_, fun e he => by simp at he⟩
    · exact tl_new _ (by simp) _
    · exact (Below.heap_alloc _ _ _ (by simp)).trans (tl_new _ (by simp) _)
  rintro x w1 ⟨rfl, ⟨y1, hT1⟩, hb1⟩
  have bel1 : Below w.heap.size w w1 := by
    refine Below.trans ?_ (hb1.mono (Nat.le_succ _))
    repeat (first | (with_reducible exact Below.refl _ _) | (with_reducible refine Below.drew ?_) | (with_reducible refine Below.alloc ?_ ?hh _; case hh => first | (simp; done) | (simp; omega) | omega) | (with_reducible refine Below.setCell ?_ ?hh _; case hh => first | (simp; done) | (simp; omega) | omega) | refine bstep (by assumption) (by first | (simp; done) | (simp; omega) | omega) ?_)
  clear hT hb1
  have hT2 := hT1.eqL (List.nil_append r)
  have c0 : w1.cell? ⟨w.heap.size + 1 + 1, 0, none⟩ = some y1 := by rw [Lib.cell_of_heap hT2.blk]; rfl
  have hcv := conv_tl _ hT2.own
  obtain ⟨ao, cp, rfl⟩ := own_shape hT2.own
  clear hT1 hT2
  go_wp2
  go_returns
  exact ⟨rfl, bel1⟩
end Go.Proofs.YtlpgkhdmilnbgaaDoor
