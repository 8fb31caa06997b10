/- Own text. A tally: the contract of addAll. -/
import Derived.Test.YtooeohhkcemoiaaTalM
import Derived.Test.YtooeohhkcemoiaaRowM
import Derived.Test.YtooeohhkcemoiaaClfA
import Derived.Handy
namespace Go.Proofs.Ytooeohhkcemoiaa
open Go.RowKit
set_option linter.unusedVariables false
theorem RowsF.nth {w w' : World} {v : Value} {ds : List C2} {F : List Nat} {b : Nat} (h : RowsF w v ds F) (hF : ∀ x ∈ F, x < b) (hb : Below b w w') {k : Nat} (hk : k < ds.length) :
    ∃ bb oo c x a0 n0, v = .slice (some ⟨bb, oo, none⟩) ds.length c ∧ ds[k]? = some x ∧ w'.cell? ⟨bb, oo + k * 2, none⟩ = some (.slice a0 x.r.length n0) ∧ w'.cell? ⟨bb, oo + k * 2 + 1, none⟩ = some (.int .i64 x.n) ∧ bb < w'.heap.size ∧ RowB w' b (.slice a0 x.r.length n0) x.r := by
  obtain ⟨a, c, bb, oo, G, rfl, hl, hc, _, hG, _, hC, ha⟩ := h.pick
  obtain ⟨rfl, hlt, rfl⟩ := ha k hk
  have hbb : bb < b := hF bb (by simp)
  have hkG : k < G.length := by omega
  obtain ⟨u, h0, h1, h2⟩ := hC k ds[k] G[k] (by simp) (by simp)
  have hg : ∀ x ∈ G[k], x < b := fun x hx => hF x (by simp only [List.mem_cons, List.mem_flatten]; exact .inr ⟨G[k], List.getElem_mem hkG, hx⟩)
  obtain ⟨a0, n0, rfl⟩ := h1.shape
  exact ⟨bb, oo, c, ds[k], a0, n0, rfl, by simp, (cell_blk (hb.block bb hbb)).trans h0, (cell_blk (hb.block bb hbb)).trans h2, Nat.lt_of_lt_of_le hlt hb.size, G[k], h1.keep hb.size (fun x hx => hb.block x (hg x hx)), hg⟩
/-- a list of rows whose counts are small. -/
def SmallC (cs : List C2) : Prop := (∀ c ∈ cs, -1000000000 ≤ c.n ∧ c.n ≤ 1000000000) ∧ cs.length ≤ 4194304
theorem SmallC.tot {cs ds : List C2} (h : SmallC ds) (hs : ∃ t, ds = cs ++ t) (r : List V3) : -4294967296000000000 ≤ totC cs r ∧ totC cs r ≤ 4294967296000000000 := by
  obtain ⟨t, rfl⟩ := hs
  have h1 := totC_bound (cs := cs) (M := 1000000000) (fun c hc => h.1 c (by simp [hc])) (by decide) r
  have h2 := h.2
  rw [List.length_append] at h2
  have : (cs.length : Int) ≤ 4194304 := by omega
  omega
set_option maxHeartbeats 4000000 in
set_option maxRecDepth 100000 in
theorem addAll_any (b n : Nat) (W X : Int) (cs ds : List C2) (v : Value) (F : List Nat) (w : World) (hT : TalIs w b n W cs) (hr : RowsF w v ds F) (hF : ∀ x ∈ F, x < b) (hg : ∀ x ∈ ds, GoodRow W x.r) (hwt : wtb ds ≤ 1048576) (hS : SmallC (cs ++ ds)) (hn : n ≤ 1099511627776) :
    Calls Try.prog 44 #[.map (some b), .agg #[.int .i64 X, v]] w fun e w' => e = .returned (.tuple #[]) ∧ TalIs w' b (n + ds.length) W (cs ++ ds) ∧ Below b w w' := by
  have hlb := hT.lt
  have hlen : ds.length ≤ 1048576 := by unfold wtb at hwt; omega
  obtain ⟨a, c, hv, hcl, hcm⟩ : ∃ a c, v = .slice a ds.length c ∧ ds.length ≤ c ∧ c ≤ maxLen := by
    obtain ⟨a, c, G, e, h1, h2, _⟩ := hr
    exact ⟨a, c, e, h1, h2⟩
  unfold maxLen at hcm
  subst hv
  go_enter Try.func44, Try.ntmps44
  go_wp2
  go_loopw [9] (fun i wr => ∃ k : Nat, k ≤ ds.length ∧ i = .int .i64 k ∧ TalIs wr b (n + k) W (cs ++ ds.take k) ∧ Below b w wr) (fun i _ => ds.length - (intOf i).toNat)
  case atStart =>
    refine ⟨0, Nat.zero_le _, rfl, ?_, ?_⟩
    · rw [List.take_zero, List.append_nil]; exact hT.keep ((Below.refl _ _).alloc (Nat.le_refl _) _)
    · exact (Below.refl _ _).alloc (Nat.le_of_lt hlb) _
  case round =>
    obtain ⟨k, hk, rfl, hTr, hb⟩ := hrel
    by_cases hlt : k < ds.length
    · obtain ⟨bb, oo, c', x, a0, n0, e, hx, c0, c1, hbb, hRow⟩ := hr.nth hF hb hlt
      obtain ⟨rfl, _, rfl⟩ : a = some ⟨bb, oo, none⟩ ∧ ds.length = ds.length ∧ c = c' := by injection e with e1 e2 e3; exact ⟨e1, e2, e3⟩
      have hxg := hg x (List.mem_of_getElem? hx)
      have hxl : x.r.length ≤ 1048576 := by have := wt_mem (List.mem_of_getElem? hx); unfold wt at this; unfold wtb at hwt; omega
      have HT : Hid (ds.take (k + 1) = ds.take k ++ [x]) := take_snoc hx
      have hlw := hTr.lt
      have hb0 : Below wr.heap.size wr (wr.alloc (.cells #[.slice a0 x.r.length n0, .int .i64 x.n] 53)) := (Below.refl _ _).alloc (Nat.le_refl _) _
      have hbd1 := hS.tot (cs := cs ++ ds.take k ++ [x]) ⟨ds.drop (k + 1), by rw [List.append_assoc cs, ← HT.out, List.append_assoc, List.take_append_drop]⟩ x.r
      rw [totC_snoc, if_pos (cmpRow_irr _)] at hbd1
      have hcall := add_any b (n + k) W (cs ++ ds.take k) (.slice a0 x.r.length n0) x.r x.n _ (hTr.keep hb0) (hRow.below (hb0.mono (Nat.le_of_lt hlw))) hxg hxl (by omega) (by omega)
      rw [List.append_assoc] at hcall
      clear hr hg hx e hRow hS hTr hbd1
      go_wp2_with (go_at_call 52; refine Calls.mono hcall ?_; rintro q w2 ⟨rfl, hT2, hb2⟩)
      refine ⟨⟨k + 1, hlt, by simp, by rw [HT.out]; exact hT2, hb.trans ((hb0.mono (Nat.le_of_lt hlw)).trans hb2)⟩, by simp [intOf]; omega⟩
    · obtain rfl : k = ds.length := by omega
      rw [List.take_length] at hTr
      clear hr hg hS
      go_wp2
      go_end0
      exact ⟨rfl, hTr, hb⟩
end Go.Proofs.Ytooeohhkcemoiaa
