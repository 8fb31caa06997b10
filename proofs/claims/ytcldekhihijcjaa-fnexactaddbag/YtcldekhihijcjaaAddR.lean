/- Own text. What the statement on AddBag holds together; the weight of two bags together. -/
import Derived.Test.YtcldekhihijcjaaInvB
import Derived.Test.YtcldekhihijcjaaToBF
import Derived.Test.YtcldekhihijcjaaTalW
import Derived.Test.YtcldekhihijcjaaMarkB
import Derived.Handy
namespace Go.Proofs.Ytcldekhihijcjaa
open Go.RowKit
set_option linter.unusedVariables false
theorem wtb_app (a b : List C2) : wtb (a ++ b) = wtb a + wtb b := by simp [wtb, wtcs]; omega
theorem wtb_one (x : C2) (b : List C2) : wtb (x :: b) = 1 + wt x.r + wtb b := by simp [wtb, wtcs]; omega
theorem wtb_cut (cs : List C2) (k : Nat) : wtb (cs.take k) + wtb (cs.drop k) = wtb cs := by rw [← wtb_app, List.take_append_drop]
theorem wtb_putC (cs : List C2) (row : List V3) (n : Int) : wtb (putC cs row n) ≤ wtb cs + (1 + wt row) := by
  have h := wtb_cut cs (ahead cs row)
  have ins : wtb (cs.take (ahead cs row) ++ (⟨row, n⟩ : C2) :: cs.drop (ahead cs row)) = wtb cs + (1 + wt row) := by rw [wtb_app, wtb_one]; simp only []; omega
  unfold putC
  split
  · rename_i x hx
    have hd : cs.drop (ahead cs row) = x :: cs.drop (ahead cs row + 1) := by
      obtain ⟨hk, rfl⟩ := List.getElem?_eq_some_iff.1 hx
      exact List.drop_eq_getElem_cons hk
    have hlt : ahead cs row < cs.length := (List.getElem?_eq_some_iff.1 hx).1
    split
    · split
      · rw [List.set_eq_take_append_cons_drop, if_pos hlt, wtb_app, wtb_one]
        rw [hd, wtb_one] at h
        simp only []
        omega
      · rw [wtb_app]
        rw [hd, wtb_one] at h
        omega
    · split
      · omega
      · omega
  · split
    · omega
    · omega
theorem wtb_sumC (n : Int) : ∀ (ds cs : List C2), wtb (sumC cs ds n) ≤ wtb cs + wtb ds
  | [], cs => by simp [sumC]
  | x :: ds, cs => by
    have h1 := wtb_sumC n ds (putC cs x.r (n * x.n))
    have h2 := wtb_putC cs x.r (n * x.n)
    have h3 := wtb_one x ds
    show wtb (sumC (putC cs x.r (n * x.n)) ds n) ≤ _
    omega
theorem wtb_addC (W Wb : Int) (cs ds : List C2) : wtb (addC W Wb cs ds) ≤ wtb cs + wtb ds := by
  unfold addC
  split
  · exact wtb_sumC 1 ds cs
  · omega
/-- what is known of the answers of region 8 and of region 31. -/
def RB (W Wb : Int) (cs ds : List C2) (i : Nat) (v : Value) (w : World) (bs : List Nat) : Prop := ∃ u, v = .agg #[.int .i64 (if i = 3 then Wb else W), u] ∧ RowsF w u (if i = 1 then cs else if i = 3 then ds else addC W Wb cs ds) bs
theorem RB.below {W Wb : Int} {cs ds : List C2} {i : Nat} {v : Value} {w w' : World} {bs : List Nat} (h : RB W Wb cs ds i v w bs) (hb : Below w.heap.size w w') : RB W Wb cs ds i v w' bs := by
  obtain ⟨u, e, hu⟩ := h
  exact ⟨u, e, hu.below hb⟩
theorem rb1 {W Wb : Int} {cs ds : List C2} {v : Value} {w : World} {bs : List Nat} : RB W Wb cs ds 1 v w bs ↔ ∃ u, v = .agg #[.int .i64 W, u] ∧ RowsF w u cs bs := by simp [RB]
theorem rb3 {W Wb : Int} {cs ds : List C2} {v : Value} {w : World} {bs : List Nat} : RB W Wb cs ds 3 v w bs ↔ ∃ u, v = .agg #[.int .i64 Wb, u] ∧ RowsF w u ds bs := by simp [RB]
theorem rb4 {W Wb : Int} {cs ds : List C2} {v : Value} {w : World} {bs : List Nat} : RB W Wb cs ds 4 v w bs ↔ ∃ u, v = .agg #[.int .i64 W, u] ∧ RowsF w u (addC W Wb cs ds) bs := by simp [RB]
structure St3 (w wi : World) (N6 A7 A8 A9 : Nat) (W Wb : Int) (va vb s u t g : Value) (R X X2 Y : List C2) (F3 F4 F5 F6 : List Nat) : Prop where
  bel : Below w.heap.size w wi
  pa : Var2 wi (w.heap.size) (.int .i64 W) va
  pb : Var2 wi (w.heap.size + 1) (.int .i64 Wb) vb
  ps : Var2 wi N6 (.int .i64 W) s
  px : Var2 wi A7 (.int .i64 W) u
  py : Var2 wi A8 (.int .i64 Wb) t
  pg : Var2 wi A9 (.int .i64 W) g
  sp : RowsF wi s R F3
  xx : RowsF wi u X F4
  yy : RowsF wi t X2 F5
  gg : RowsF wi g Y F6
  o4 : Own wi w.heap.size F4
  o5 : Own wi w.heap.size F5
  o6 : Own wi w.heap.size F6
  n4 : ∀ b ∈ F4, (b ≠ (w.heap.size) ∧ b ≠ (w.heap.size + 1) ∧ b ≠ N6 ∧ b ≠ A7 ∧ b ≠ A8 ∧ b ≠ A9) ∧ b ∉ F3 ∧ b ∉ F5 ∧ b ∉ F6
  n5 : ∀ b ∈ F5, (b ≠ (w.heap.size) ∧ b ≠ (w.heap.size + 1) ∧ b ≠ N6 ∧ b ≠ A7 ∧ b ≠ A8 ∧ b ≠ A9) ∧ b ∉ F3 ∧ b ∉ F4 ∧ b ∉ F6
  n6 : ∀ b ∈ F6, (b ≠ (w.heap.size) ∧ b ≠ (w.heap.size + 1) ∧ b ≠ N6 ∧ b ≠ A7 ∧ b ≠ A8 ∧ b ≠ A9) ∧ b ∉ F3 ∧ b ∉ F4 ∧ b ∉ F5
section
variable {w wi wj : World} {N6 A7 A8 A9 : Nat} {W Wb : Int} {va vb s u t g : Value} {R X X2 Y : List C2} {F3 F4 F5 F6 : List Nat}
theorem St3.below (h : St3 w wi N6 A7 A8 A9 W Wb va vb s u t g R X X2 Y F3 F4 F5 F6) (hb : Below wi.heap.size wi wj) : St3 w wj N6 A7 A8 A9 W Wb va vb s u t g R X X2 Y F3 F4 F5 F6 :=
  ⟨h.bel.trans (hb.mono h.bel.size), h.pa.below hb, h.pb.below hb, h.ps.below hb, h.px.below hb, h.py.below hb, h.pg.below hb, h.sp.below hb, h.xx.below hb, h.yy.below hb, h.gg.below hb, h.o4.below h.xx.lt hb, h.o5.below h.yy.lt hb, h.o6.below h.gg.lt hb, h.n4, h.n5, h.n6⟩
theorem St3.markX (h : St3 w wi N6 A7 A8 A9 W Wb va vb s u t g R X X2 Y F3 F4 F5 F6) {Z : List C2} (hc : Chg F4 wi wj) (hz : RowsF wj u Z F4) : St3 w wj N6 A7 A8 A9 W Wb va vb s u t g R Z X2 Y F3 F4 F5 F6 := by
  have c : ∀ b, b < wi.heap.size → b ∉ F4 → wj.heap[b]? = wi.heap[b]? := fun b hb hF => hc.block b hb hF
  exact ⟨h.bel.trans (hc.below h.o4.2.1 h.bel.size), h.pa.keep hc.size (c _ h.pa.lt fun hb => (h.n4 _ hb).1.1 rfl), h.pb.keep hc.size (c _ h.pb.lt fun hb => (h.n4 _ hb).1.2.1 rfl), h.ps.keep hc.size (c _ h.ps.lt fun hb => (h.n4 _ hb).1.2.2.1 rfl), h.px.keep hc.size (c _ h.px.lt fun hb => (h.n4 _ hb).1.2.2.2.1 rfl), h.py.keep hc.size (c _ h.py.lt fun hb => (h.n4 _ hb).1.2.2.2.2.1 rfl), h.pg.keep hc.size (c _ h.pg.lt fun hb => (h.n4 _ hb).1.2.2.2.2.2 rfl), h.sp.chg hc (fun b hb hb' => (h.n4 b hb').2.1 hb), hz, h.yy.chg hc (fun b hb hb' => (h.n4 b hb').2.2.1 hb), h.gg.chg hc (fun b hb hb' => (h.n4 b hb').2.2.2 hb), ⟨h.o4.1, h.o4.2.1, hc.free h.o4.2.2⟩, h.o5.keep (fun b hb => c b (h.yy.lt b hb) fun hb' => (h.n4 b hb').2.2.1 hb), h.o6.keep (fun b hb => c b (h.gg.lt b hb) fun hb' => (h.n4 b hb').2.2.2 hb), h.n4, h.n5, h.n6⟩
theorem St3.markY (h : St3 w wi N6 A7 A8 A9 W Wb va vb s u t g R X X2 Y F3 F4 F5 F6) {Z : List C2} (hc : Chg F5 wi wj) (hz : RowsF wj t Z F5) : St3 w wj N6 A7 A8 A9 W Wb va vb s u t g R X Z Y F3 F4 F5 F6 := by
  have c : ∀ b, b < wi.heap.size → b ∉ F5 → wj.heap[b]? = wi.heap[b]? := fun b hb hF => hc.block b hb hF
  exact ⟨h.bel.trans (hc.below h.o5.2.1 h.bel.size), h.pa.keep hc.size (c _ h.pa.lt fun hb => (h.n5 _ hb).1.1 rfl), h.pb.keep hc.size (c _ h.pb.lt fun hb => (h.n5 _ hb).1.2.1 rfl), h.ps.keep hc.size (c _ h.ps.lt fun hb => (h.n5 _ hb).1.2.2.1 rfl), h.px.keep hc.size (c _ h.px.lt fun hb => (h.n5 _ hb).1.2.2.2.1 rfl), h.py.keep hc.size (c _ h.py.lt fun hb => (h.n5 _ hb).1.2.2.2.2.1 rfl), h.pg.keep hc.size (c _ h.pg.lt fun hb => (h.n5 _ hb).1.2.2.2.2.2 rfl), h.sp.chg hc (fun b hb hb' => (h.n5 b hb').2.1 hb), h.xx.chg hc (fun b hb hb' => (h.n5 b hb').2.2.1 hb), hz, h.gg.chg hc (fun b hb hb' => (h.n5 b hb').2.2.2 hb), h.o4.keep (fun b hb => c b (h.xx.lt b hb) fun hb' => (h.n5 b hb').2.2.1 hb), ⟨h.o5.1, h.o5.2.1, hc.free h.o5.2.2⟩, h.o6.keep (fun b hb => c b (h.gg.lt b hb) fun hb' => (h.n5 b hb').2.2.2 hb), h.n4, h.n5, h.n6⟩
theorem St3.markG (h : St3 w wi N6 A7 A8 A9 W Wb va vb s u t g R X X2 Y F3 F4 F5 F6) {Z : List C2} (hc : Chg F6 wi wj) (hz : RowsF wj g Z F6) : St3 w wj N6 A7 A8 A9 W Wb va vb s u t g R X X2 Z F3 F4 F5 F6 := by
  have c : ∀ b, b < wi.heap.size → b ∉ F6 → wj.heap[b]? = wi.heap[b]? := fun b hb hF => hc.block b hb hF
  exact ⟨h.bel.trans (hc.below h.o6.2.1 h.bel.size), h.pa.keep hc.size (c _ h.pa.lt fun hb => (h.n6 _ hb).1.1 rfl), h.pb.keep hc.size (c _ h.pb.lt fun hb => (h.n6 _ hb).1.2.1 rfl), h.ps.keep hc.size (c _ h.ps.lt fun hb => (h.n6 _ hb).1.2.2.1 rfl), h.px.keep hc.size (c _ h.px.lt fun hb => (h.n6 _ hb).1.2.2.2.1 rfl), h.py.keep hc.size (c _ h.py.lt fun hb => (h.n6 _ hb).1.2.2.2.2.1 rfl), h.pg.keep hc.size (c _ h.pg.lt fun hb => (h.n6 _ hb).1.2.2.2.2.2 rfl), h.sp.chg hc (fun b hb hb' => (h.n6 b hb').2.1 hb), h.xx.chg hc (fun b hb hb' => (h.n6 b hb').2.2.1 hb), h.yy.chg hc (fun b hb hb' => (h.n6 b hb').2.2.2 hb), hz, h.o4.keep (fun b hb => c b (h.xx.lt b hb) fun hb' => (h.n6 b hb').2.2.1 hb), h.o5.keep (fun b hb => c b (h.yy.lt b hb) fun hb' => (h.n6 b hb').2.2.2 hb), ⟨h.o6.1, h.o6.2.1, hc.free h.o6.2.2⟩, h.n4, h.n5, h.n6⟩
end
end Go.Proofs.Ytcldekhihijcjaa
