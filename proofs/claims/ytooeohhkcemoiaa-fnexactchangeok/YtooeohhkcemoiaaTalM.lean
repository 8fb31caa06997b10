/- Own text. A tally in memory: a map from rows' bytes to rows and how often they are there; the contract of its method add. -/
import Derived.Test.YtooeohhkcemoiaaTalP
import Derived.Maps.RangeWalk
import Derived.Handy
namespace Go.Proofs.Ytooeohhkcemoiaa
open Go.RowKit
set_option linter.unusedVariables false
/-- what an element of the map reads as: its row's slice and its number. -/
def Rc (v : Value) : Option (DataW (Value × Int) × List MemPlace) := match v with
  | .agg cs => match cs.toList with
    | [.slice a l c, .int .i64 n] => some (.held (.slice a l c, n), [])
    | _ => none
  | _ => none
theorem Rc_mk (a : Option Addr) (l c : Nat) (n : Int) : Rc (.agg #[.slice a l c, .int .i64 n]) = some (.held (.slice a l c, n), []) := rfl
theorem Rc_inv {v : Value} {z : DataW (Value × Int) × List MemPlace} (h : Rc v = some z) : ∃ a l c n, v = .agg #[.slice a l c, .int .i64 n] ∧ z = (.held (.slice a l c, n), []) := by
  unfold Rc at h
  split at h
  · rename_i cs
    split at h
    · rename_i a l c n e
      refine ⟨a, l, c, n, ?_, (Option.some.inj h).symm⟩
      congr 1
      exact Array.toList_inj.1 e
    · cases h
  · cases h
abbrev DT := DataW (Value × Int)
/-- the key of a row. -/
def klit (r : List V3) : Lit := .string (rowU r)
theorem klit_key (r : List V3) : WideAt.IsKeyLit (klit r) := trivial
theorem klit_inj {W : Int} {r q : List V3} (hr : GoodRow W r) (hq : GoodRow W q) (h : klit r = klit q) : r = q := hr.inj hq (by unfold klit at h; simpa using h)
/-- a row that lies in blocks below b. -/
def RowB (w : World) (b : Nat) (v : Value) (r : List V3) : Prop := ∃ g, RowF w v r g ∧ ∀ x ∈ g, x < b
theorem RowB.below {w w' : World} {b : Nat} {v : Value} {r : List V3} (h : RowB w b v r) (hb : Below b w w') : RowB w' b v r := by
  obtain ⟨g, hg, hl⟩ := h
  exact ⟨g, hg.keep hb.size fun x hx => hb.block x (hl x hx), hl⟩
theorem RowB.mono {w : World} {b b' : Nat} {v : Value} {r : List V3} (h : RowB w b v r) (hb : b ≤ b') : RowB w b' v r := by
  obtain ⟨g, hg, hl⟩ := h
  exact ⟨g, hg, fun x hx => Nat.lt_of_lt_of_le (hl x hx) hb⟩
/-- the datum D is the tally of the rows cs, each of them in blocks below b. -/
structure TallyOf (w : World) (b : Nat) (D : DT) (W : Int) (cs : List C2) : Prop where
  no : ∀ r, GoodRow W r → totC cs r = 0 → Maps.has D (klit r) = false
  yes : ∀ r, GoodRow W r → totC cs r ≠ 0 → ∃ v, (∀ z, D.atKey (klit r) z = .held (v, totC cs r)) ∧ RowB w b v r
  only : ∀ kl, Maps.has D kl = true → ∃ r, GoodRow W r ∧ kl = klit r
theorem TallyOf.below {w w' : World} {b : Nat} {D : DT} {W : Int} {cs : List C2} (h : TallyOf w b D W cs) (hb : Below b w w') : TallyOf w' b D W cs :=
  ⟨h.no, fun r hr hn => by obtain ⟨v, h1, h2⟩ := h.yes r hr hn; exact ⟨v, h1, h2.below hb⟩, h.only⟩
theorem TallyOf.start (w : World) (b : Nat) (W : Int) : TallyOf w b (.map []) W [] :=
  ⟨fun _ _ _ => rfl, fun _ _ h => absurd rfl h, fun kl h => by cases h⟩
/-- what a look-up answers. -/
theorem TallyOf.at {w : World} {b : Nat} {D : DT} {W : Int} {cs : List C2} (h : TallyOf w b D W cs) {r : List V3} (hr : GoodRow W r) : ∃ a l c, D.atKey (klit r) (.held (.slice none 0 0, 0)) = .held (.slice a l c, totC cs r) := by
  by_cases hn : totC cs r = 0
  · exact ⟨none, 0, 0, by rw [hn]; exact Maps.atKey_of_not_has (h.no r hr hn) _⟩
  · obtain ⟨v, h1, g, ⟨a, c, rfl, _⟩, _⟩ := h.yes r hr hn
    exact ⟨a, _, c, h1 _⟩
theorem TallyOf.put {w : World} {b : Nat} {D : DT} {W : Int} {cs : List C2} (h : TallyOf w b D W cs) (hD : Maps.IsMap D) {r : List V3} (hr : GoodRow W r) {m : Int} {v : Value} (hv : RowB w b v r) (hs : totC cs r + m ≠ 0) : TallyOf w b (D.put (klit r) (.held (v, totC cs r + m))) W (cs ++ [⟨r, m⟩]) := by
  refine ⟨fun q hq hz => ?_, fun q hq hz => ?_, fun kl hk => ?_⟩
  · rw [totC_snoc] at hz
    by_cases e : r = q
    · subst e; rw [if_pos (cmpRow_irr _)] at hz; exact absurd hz hs
    · rw [if_neg (fun e' => e ((cmpRow_0 _ _).1 e')), Int.add_zero] at hz
      rw [Maps.has_put_other (fun e' => e (klit_inj hq hr e').symm)]
      exact h.no q hq hz
  · rw [totC_snoc] at hz ⊢
    by_cases e : r = q
    · subst e
      rw [if_pos (cmpRow_irr _)]
      exact ⟨v, fun z => Maps.atKey_put_same hD (klit_key _) _ _, hv⟩
    · rw [if_neg (fun e' => e ((cmpRow_0 _ _).1 e')), Int.add_zero] at hz ⊢
      obtain ⟨u, h1, h2⟩ := h.yes q hq hz
      exact ⟨u, fun z => by rw [Maps.atKey_put_other (fun e' => e (klit_inj hq hr e').symm)]; exact h1 z, h2⟩
  · by_cases e : kl = klit r
    · exact ⟨r, hr, e⟩
    · rw [Maps.has_put_other e] at hk
      exact h.only kl hk
theorem TallyOf.del {w : World} {b : Nat} {D : DT} {W : Int} {cs : List C2} (h : TallyOf w b D W cs) {r : List V3} (hr : GoodRow W r) {m : Int} (hs : totC cs r + m = 0) : TallyOf w b (D.del (klit r)) W (cs ++ [⟨r, m⟩]) := by
  refine ⟨fun q hq hz => ?_, fun q hq hz => ?_, fun kl hk => ?_⟩
  · by_cases e : r = q
    · subst e; exact Maps.has_del_same
    · rw [totC_snoc, if_neg (fun e' => e ((cmpRow_0 _ _).1 e')), Int.add_zero] at hz
      rw [Maps.has_del_other (fun e' => e (klit_inj hq hr e').symm)]
      exact h.no q hq hz
  · by_cases e : r = q
    · subst e; rw [totC_snoc, if_pos (cmpRow_irr _)] at hz; exact absurd hs hz
    · rw [totC_snoc, if_neg (fun e' => e ((cmpRow_0 _ _).1 e')), Int.add_zero] at hz ⊢
      obtain ⟨u, h1, h2⟩ := h.yes q hq hz
      exact ⟨u, fun z => by rw [Maps.atKey_del_other (fun e' => e (klit_inj hq hr e').symm)]; exact h1 z, h2⟩
  · by_cases e : kl = klit r
    · rw [e, Maps.has_del_same] at hk; cases hk
    · rw [Maps.has_del_other e] at hk
      exact h.only kl hk
theorem zeroCnt (w : World) : (zeroValue 53).run Try.prog w = .ok (.agg #[.slice none 0 0, .int .i64 0]) w := by kernel_rfl
theorem fldCnt (a : Option Addr) (l c : Nat) (n : Int) (w : World) : (Instr.field 53 (.agg #[.slice a l c, .int .i64 n]) 1).run Try.prog w = .ok (.int .i64 n) w := by kernel_rfl
/-- the tally cs in block b of w. -/
def TalIs (w : World) (b n : Nat) (W : Int) (cs : List C2) : Prop := ∃ D : DT, w.ownsMap Try.prog 9 Rc b n D ∧ TallyOf w b D W cs
theorem TalIs.lt {w : World} {b n : Nat} {W : Int} {cs : List C2} (h : TalIs w b n W cs) : b < w.heap.size := by
  obtain ⟨D, h, _⟩ := h
  exact h.lt
theorem TalIs.keep {w w' : World} {b n : Nat} {W : Int} {cs : List C2} (h : TalIs w b n W cs) (hb : Below w.heap.size w w') : TalIs w' b n W cs := by
  have hl := h.lt
  obtain ⟨D, h, hT⟩ := h
  exact ⟨D, h.kept (row := none) ⟨hb.os, hb.tape, hb.output, hb.size, fun k hk _ => hb.block k hk⟩ (by simp), hT.below (hb.mono (Nat.le_of_lt hl))⟩
set_option maxHeartbeats 4000000 in
set_option maxRecDepth 100000 in
theorem add_any (b n : Nat) (W : Int) (cs : List C2) (v : Value) (r : List V3) (m : Int) (w : World) (hT : TalIs w b n W cs) (hv : RowB w b v r) (hr : GoodRow W r) (hlen : r.length ≤ 1048576) (hn : n ≤ 4611686018427387904) (hm : -4611686018427387904 ≤ totC cs r + m ∧ totC cs r + m ≤ 4611686018427387904) :
    Calls Try.prog 52 #[.map (some b), v, .int .i64 m] w fun e w' => e = .returned (.tuple #[]) ∧ TalIs w' b (n + 1) W (cs ++ [⟨r, m⟩]) ∧ Below b w w' := by
  have hlb := hT.lt
  have hrow := rowBytes_any v r w (by obtain ⟨g, hg, _⟩ := hv; exact hg.is) hr.2 hlen
  have hsz : (ByteArray.mk (rowU r).toArray).size ≤ maxLen := by
    have := rowU_len r
    show (rowU r).toArray.size ≤ maxLen
    unfold maxLen; simp; omega
  have hkey : keyOf Try.prog 9 (.string ⟨(rowU r).toArray⟩) = some (klit r) := by
    rw [WideMaps.keyOf_string_mk Try.underlying9 hsz]; rfl
  obtain ⟨av, cv, rfl⟩ : ∃ a c, v = .slice a r.length c := by obtain ⟨g, ⟨a, c, e, _⟩, _⟩ := hv; exact ⟨a, c, e⟩
  obtain ⟨S, HS⟩ : ∃ S, Hid (totC cs r = S) := ⟨_, rfl⟩
  rw [HS.out] at hm
  have hwi : IntKind.i64.wrap (S + m) = S + m := by rw [IntKind.wrap_i64]; omega
  have hwr : wrap64 (S + m) = S + m := by unfold wrap64; omega
  go_enter Try.func52, Try.ntmps52
  go_wp2_with fail
  refine Calls.mono hrow ?_
  rintro e w1 ⟨rfl, hb1⟩
  have hT1 := hT.keep hb1
  have hbb : Below b w w1 := hb1.mono (Nat.le_of_lt hlb)
  have hv1 := hv.below hbb
  have hl1 : b < w1.heap.size := hT1.lt
  clear hT hv hrow
  obtain ⟨D, hown, hTD⟩ := hT1
  obtain ⟨ua, ul, uc, hat⟩ := hTD.at hr
  obtain ⟨q, ps, hlook, hq⟩ := hown.lookup (t := 73) (e := 53) (Maps.string_keyed Try.underlying9) Try.underlying73 (zeroCnt w1) (Rc_mk _ _ _ _) hkey
  rw [hat, HS.out] at hq
  obtain ⟨ra, rl, rq, n0, rfl, e0⟩ := Rc_inv hq
  obtain ⟨⟨⟨rfl, rfl, rfl⟩, rfl⟩, _⟩ : ((ua = ra ∧ ul = rl ∧ uc = rq) ∧ S = n0) ∧ ps = [] := by simpa using e0
  clear hq e0 hat
  have hfld := fldCnt ua ul uc S w1
  by_cases hz : S + m = 0
  · have hzb : (S + m == 0) = true := by simpa using hz
    have hTd := hTD.del hr (m := m) (by rw [HS.out]; exact hz)
    go_wp2_with (at_delete; refine wpList_delete_own _ rfl _ _ 73 9 rfl 53 (Maps.string_keyed Try.underlying9) Try.underlying73 _ b n D rfl hown _ _ rfl hkey ?_; intro w2 hown2 hturn2)
    refine bodyPost_ret (results_none rfl _ _ _) rfl ?_
    have hb2 : Below b w1 w2 := (Below.refl b w1).grown hturn2.grown (Nat.le_of_lt hl1) (fun k e => by cases e; exact Nat.le_refl _)
    exact ⟨rfl, ⟨_, hown2.mono (Nat.le_succ _), hTd.below hb2⟩, hbb.trans hb2⟩
  · have hzb : (S + m == 0) = false := by simpa using hz
    have hTp := hTD.put hown.isMap hr (m := m) hv1 (by rw [HS.out]; exact hz)
    rw [HS.out] at hTp
    go_wp2_with (at_mapUpdate; refine wpList_mapUpdate_in _ rfl _ _ _ 73 rfl 9 53 (Maps.string_keyed Try.underlying9) Try.underlying73 _ b n D rfl hown (by unfold maxLen; omega) _ _ (klit r) rfl rfl hkey (.held (.slice av r.length cv, S + m)) [] (Rc_mk _ _ _ _) ?_; intro w2 hown2 hturn2)
    go_end0
    have hb2 : Below b w1 w2 := (Below.refl b w1).grown hturn2.grown (Nat.le_of_lt hl1) (fun k e => by cases e; exact Nat.le_refl _)
    exact ⟨rfl, ⟨_, hown2, hTp.below hb2⟩, hbb.trans hb2⟩
end Go.Proofs.Ytooeohhkcemoiaa
