/- Own text. The contract of the program's cutQuoted. -/
import Derived.Test.YtbobjfokampjbaaDoorRrE
import Derived.Test.YtbobjfokampjbaaDoorRrS
import Derived.Test.YtbobjfokampjbaaDoorQuoP
import Derived.Test.YtbobjfokampjbaaDoorTxtL
import Derived.Handy
namespace Go.Proofs.YtbobjfokampjbaaDoor
open Go.RowKit Go.ChangeShapes Go.WideShapes
set_option linter.unusedVariables false
theorem idx_q : ∀ l : List UInt8, ((∀ c ∈ l, c ≠ 39) ∧ Lib.index l [39] = -1) ∨ ∃ a r, l = a ++ 39 :: r ∧ (∀ c ∈ a, c ≠ 39) ∧ Lib.index l [39] = (a.length : Int)
  | [] => .inl ⟨by simp, rfl⟩
  | b :: l => by
    have hi := index_q b l
    by_cases hb : b = 39
    · right
      exact ⟨[], l, by rw [hb]; rfl, by simp, by rw [hi, if_pos hb]; rfl⟩
    · rw [if_neg hb] at hi
      rcases idx_q l with ⟨h1, h2⟩ | ⟨a, r, h1, h2, h3⟩
      · left
        exact ⟨fun c hc => by rcases List.mem_cons.1 hc with rfl | hc; exact hb; exact h1 c hc, by rw [hi, if_pos h2]⟩
      · right
        exact ⟨b :: a, r, by rw [h1]; rfl, fun c hc => by rcases List.mem_cons.1 hc with rfl | hc; exact hb; exact h2 c hc, by rw [hi, if_neg (by omega), h3]; simp⟩
theorem cut_q (l : List UInt8) : ((∀ c ∈ l, c ≠ 39) ∧ Lib.cut l [39] = (l, [], false)) ∨ ∃ a r, l = a ++ 39 :: r ∧ (∀ c ∈ a, c ≠ 39) ∧ Lib.cut l [39] = (a, r, true) := by
  unfold Lib.cut
  rcases idx_q l with ⟨h1, h2⟩ | ⟨a, r, h1, h2, h3⟩
  · left; exact ⟨h1, by rw [h2]; rfl⟩
  · right
    refine ⟨a, r, h1, h2, ?_⟩
    rw [h3, if_pos (by omega), h1]
    simp
/-- what is read where J is read so far and cur is left. -/
def qC (J cur : List UInt8) : Option (List UInt8 × List UInt8) := match cur with
  | [] => some (J, [])
  | c :: b => if c = 39 then (qtx b).map (fun p => (J ++ 39 :: p.1, p.2)) else some (J, c :: b)
theorem qC_key {a : List UInt8} (ha : ∀ c ∈ a, c ≠ 39) (r : List UInt8) : qtx (a ++ 39 :: r) = qC a r := by
  rw [qtx_pre a ha]
  cases r with
  | nil => simp [qtx, qC]
  | cons d r =>
    by_cases hd : d = 39
    · subst hd
      rw [qtx_two]
      unfold qC
      dsimp only
      rw [if_pos rfl]
      simp [Option.map_map, Function.comp_def]
    · rw [qtx_end _ (by simpa using hd)]
      unfold qC
      dsimp only
      rw [if_neg hd]
      simp
theorem qC_map (J a r : List UInt8) : (qC a r).map (fun p => (J ++ 39 :: p.1, p.2)) = qC (J ++ 39 :: a) r := by
  unfold qC
  cases r with
  | nil => rfl
  | cons d r =>
    dsimp only
    split
    · simp [Option.map_map, Function.comp_def]
    · rfl
theorem join_push (ls : List (List UInt8)) (a : List UInt8) (h : ls ≠ []) : Lib.join (ls ++ [a]) [39] = Lib.join ls [39] ++ 39 :: a := by
  cases ls with
  | nil => exact absurd rfl h
  | cons x r =>
    rw [List.cons_append, Lib.join_cons, Lib.join_cons]
    unfold Lib.joinTail
    simp
def QP (b0 cur : List UInt8) (ls : List (List UInt8)) : Prop := (ls = [] ∧ cur = 39 :: b0) ∨ (ls ≠ [] ∧ qtx b0 = qC (Lib.join ls [39]) cur)
theorem QP.step {b0 a r : List UInt8} {ls : List (List UInt8)} (h : QP b0 (39 :: (a ++ 39 :: r)) ls) (ha : ∀ c ∈ a, c ≠ 39) : QP b0 r (ls ++ [a]) := by
  right
  refine ⟨by simp, ?_⟩
  rcases h with ⟨rfl, h2⟩ | ⟨h1, h2⟩
  · injection h2 with _ h2
    rw [← h2, qC_key ha]
    simp [Lib.join_cons, Lib.joinTail]
  · rw [h2, join_push ls a h1, ← qC_map, ← qC_key ha]
    unfold qC
    dsimp only
    rw [if_pos rfl]
theorem QP.none {b0 b : List UInt8} {ls : List (List UInt8)} (h : QP b0 (39 :: b) ls) (hb : ∀ c ∈ b, c ≠ 39) : qtx b0 = none := by
  rcases h with ⟨rfl, h2⟩ | ⟨h1, h2⟩
  · injection h2 with _ h2
    rw [← h2]; exact qtx_none hb
  · rw [h2]; unfold qC; dsimp only; rw [if_pos rfl, qtx_none hb]; rfl
theorem QP.fin {b0 cur : List UInt8} {ls : List (List UInt8)} (h : QP b0 cur ls) (hc : cur.head? ≠ some 39) : qtx b0 = some (Lib.join ls [39], cur) := by
  rcases h with ⟨rfl, h2⟩ | ⟨h1, h2⟩
  · rw [h2] at hc; simp at hc
  · rw [h2]; unfold qC
    cases cur with
    | nil => rfl
    | cons c b => dsimp only; rw [if_neg (by simpa using hc)]
/-- whether there is a text in quotes that is not too long. -/
def okQ (b0 : List UInt8) : Bool := match qtx b0 with
  | some p => decide (p.1.length ≤ 100)
  | none => false
def CqOut (b0 : List UInt8) (w : World) (e : Ending) (w' : World) : Prop := (∃ T R : ByteArray, e = .returned (.tuple #[.string T, .string R, .bool (okQ b0)]) ∧ (okQ b0 = true → ∀ p, qtx b0 = some p → T = bs p.1 ∧ R = bs p.2)) ∧ Below w.heap.size w w'
theorem bs_data (l : List UInt8) : (bs l).data.toList = l := by simp [bs]
theorem bs_ext (c : UInt8) (b : List UInt8) : (bs (c :: b)).extract 1 (bs (c :: b)).size = bs b := by
  apply ByteArray.ext
  apply Array.ext'
  rw [extract_l, bs_data, bs_data, bs_size]
  simp
set_option maxHeartbeats 1000000 in
theorem clone_any (s : ByteArray) (w : World) (hs : s.size ≤ 281474976710656) : Calls Tryd.prog 28 #[.string s] w fun e w' => e = .returned (.string s) ∧ Below w.heap.size w w' := by
  go_enter Tryd.func28, Tryd.ntmps28
  go_wp2_with (first | (go_at_call 35; refine Calls.mono (Tryd.stringslite_Clone s _ hs) ?_; rintro r w1 ⟨rfl, hb1⟩) | fail)
  go_returns
  exact ⟨rfl, hb1⟩
set_option maxHeartbeats 4000000 in
set_option maxRecDepth 100000 in
theorem cutQuoted_any (s : ByteArray) (b0 : List UInt8) (w : World) (HS : Hid (s = bs (39 :: b0))) (hs : s.size ≤ 1048576) (hE : EnvR w) :
    Calls Tryd.prog 20 #[.string s] w fun e w' => CqOut b0 w e w' := by
  obtain ⟨i0, hi, hz0, hz1, hz2⟩ := info_parts Tryd.infoT
  have hl0 : b0.length + 1 ≤ 1048576 := by have := congrArg ByteArray.size HS.out; rw [bs_size] at this; simp at this; omega
  have HE : Hid (EnvR w) := hE
  have hT0 := TxtsAt.new (w := w) (N := w.heap.size) rfl (Nat.le_refl _)
  clear hE hs
  go_enter Tryd.func20, Tryd.ntmps20
  go_wp2_with fail
  go_loopw [0, 5] (fun x y wr => ∃ (cur : List UInt8) (ls : List (List UInt8)) (yb yc : Nat), x = .string (bs cur) ∧ y = .slice (some ⟨yb, 0, none⟩) ls.length yc ∧ TxtsAt wr w.heap.size yb yc ls.length ls ∧ Hid (QP b0 cur ls) ∧ Hid (∀ l ∈ ls, l.length ≤ 1048576) ∧ ls.length + cur.length ≤ 1048576 ∧ Below w.heap.size w wr) (fun x _ _ => match x with | .string t => t.size | _ => 0)
  case atStart => exact ⟨39 :: b0, [], w.heap.size, 0, by rw [HS.out], rfl, hT0, (Or.inl ⟨rfl, rfl⟩ : QP b0 (39 :: b0) []), (fun l hl => absurd hl (by simp)), (by simp; omega), by repeat (first | (with_reducible exact Below.refl _ _) | (with_reducible refine Below.drew ?_) | (with_reducible refine Below.alloc ?_ ?hh _; case hh => first | (simp; done) | (simp; omega) | omega) | (with_reducible refine Below.setCell ?_ ?hh _; case hh => first | (simp; done) | (simp; omega) | omega) | refine bstep (by assumption) (by first | (simp; done) | (simp; omega) | omega) ?_)⟩
  case round =>
    clear hT0
    obtain ⟨cur, ls, yb, yc, rfl, rfl, hT, HQ, HM, hlen, hb⟩ := hrel
    have hzb := hb.size
    by_cases hcur : ∃ b, cur = 39 :: b
    · obtain ⟨b, rfl⟩ := hcur
      have hHP := Tryd.strings_HasPrefix (bs (39 :: b)) ⟨#[39]⟩ wr
      have hp1 : Lib.hasPrefix (bs (39 :: b)).data.toList [39] = true := by rw [bs_data]; rfl
      have hHP2 : Calls Tryd.prog 19 #[.string (bs (39 :: b)), .string ⟨#[39]⟩] wr fun e w' => e = .returned (.bool true) ∧ w' = wr := hHP.mono fun e w' ⟨h1, h2⟩ => ⟨by rw [h1, ← hp1], h2⟩
      clear hHP hp1
      obtain ⟨m, hm⟩ := (HE.out.below hb).max
      have hsz : (bs (39 :: b)).size = b.length + 1 := by rw [bs_size]; rfl
      have hex := bs_ext 39 b
      have hC := Tryd.strings_Cut ((bs (39 :: b)).extract 1 (bs (39 :: b)).size) ⟨#[39]⟩ m wr (by rw [hex, bs_size]; simp at hlen; omega) hm
      have hcd : ((bs (39 :: b)).extract 1 (bs (39 :: b)).size).data.toList = b := by rw [hex, bs_data]
      rw [hcd] at hC
      have hsl : (1 : Int) ≤ ((bs (39 :: b)).size : Int) := by omega
      simp only [List.length_cons] at hlen
      have HSZ : Hid ((bs (39 :: b)).size = b.length + 1) := hsz
      clear hm hcd hex hsz
      rcases cut_q b with ⟨h1, h2⟩ | ⟨a, r, h1, h2, h3⟩
      · have hC2 : Calls Tryd.prog 27 #[.string ((bs (39 :: b)).extract 1 (bs (39 :: b)).size), .string ⟨#[39]⟩] wr fun e w' => e = .returned (.tuple #[.string (bs b), .string (bs []), .bool false]) ∧ Below wr.heap.size wr w' := hC.mono fun e w' ⟨e1, n, e2⟩ => ⟨by rw [e1]; show _ = _; rw [show (⟨#[39]⟩ : ByteArray).data.toList = [39] from rfl, h2]; rfl, by rw [e2]; exact ⟨rfl, rfl, rfl, Nat.le_refl _, fun _ _ => rfl⟩⟩
        have HF : Hid (okQ b0 = false) := by show _ = _; unfold okQ; rw [HQ.out.none h1]
        clear hC h1 h2 HQ HM
        generalize bs (39 :: b) = S at *
        generalize bs b = S2 at *
        generalize bs [] = S3 at *
        go_wp2_with (first | (go_at_call 19; (with_reducible refine Calls.mono hHP2 ?_); rintro r0 w0 ⟨rfl, hw0⟩; obtain rfl : wr = w0 := hw0.symm) | (go_at_call 27; (with_reducible refine Calls.mono hC2 ?_); rintro r1 w1 ⟨rfl, hb1⟩) | fail)
        go_returns
        exact ⟨⟨⟨#[]⟩, S, by rw [HF.out]; rfl, fun h => by rw [HF.out] at h; cases h⟩, hb.trans (hb1.mono hzb)⟩
      · have hC2 : Calls Tryd.prog 27 #[.string ((bs (39 :: b)).extract 1 (bs (39 :: b)).size), .string ⟨#[39]⟩] wr fun e w' => e = .returned (.tuple #[.string (bs a), .string (bs r), .bool true]) ∧ Below wr.heap.size wr w' := hC.mono fun e w' ⟨e1, n, e2⟩ => ⟨by rw [e1]; show _ = _; rw [show (⟨#[39]⟩ : ByteArray).data.toList = [39] from rfl, h3]; rfl, by rw [e2]; exact ⟨rfl, rfl, rfl, Nat.le_refl _, fun _ _ => rfl⟩⟩
        have hbl : b.length = a.length + (r.length + 1) := by rw [h1]; simp
        have HX : Hid (QP b0 r (ls ++ [a])) := by subst h1; exact HQ.out.step h2
        have HM2 : Hid (∀ l ∈ ls ++ [a], l.length ≤ 1048576) := by
          intro l hl
          rcases List.mem_append.1 hl with hl | hl
          · exact HM.out l hl
          · rw [List.mem_singleton.1 hl]; omega
        clear hC h1 h2 h3 HQ HM
        generalize bs (39 :: b) = S at *
        have hnr : (bs r).size = r.length := bs_size r
        have hbw := fun w1 (h : Below wr.heap.size wr w1) => hb.trans (h.mono hzb)
        go_wp2_with (first | (go_at_call 19; (with_reducible refine Calls.mono hHP2 ?_); rintro r0 w0 ⟨rfl, hw0⟩; obtain rfl : wr = w0 := hw0.symm) | (go_at_call 27; (with_reducible refine Calls.mono hC2 ?_); rintro r1 w1 ⟨rfl, hb1⟩; have bel1 := hbw _ hb1; have hT1 := hT.below hb1; have hO1 := (hT1.alloc (.cells #[.string (bs a)] 9)).1; have hz1' := bel1.size; have hnew := txt_new w1 a; clear hb1 hbw hT hb hC2) | (at_builtin; refine wpList_append_own_at _ rfl _ _ 51 rfl w.heap.size 9 i0 _ 1 16 Tryd.underlying51 hi hz0 hz1 hz2 rfl (by decide) (.slice (some ⟨yb, 0, none⟩) ls.length yc) ls.length (strL ls) rfl hO1 ⟨w1.heap.size, 0, none⟩ 1 1 [.string (bs a)] rfl rfl hnew (by simp [Value.oneCell']) ?c3 ?c4 ?c5 ?_))
        case c3 => unfold maxLen; omega
        case c4 => omega
        case c5 => simp; omega
        intro v5 w5 hown5 hgr5 _ _
        obtain ⟨b5, c5, rfl, hT5⟩ := TxtsAt.push (w := w1) hT1.2 hown5
        have hlt1 := hT1.lt
        have bel5 : Below w.heap.size w w5 := (bel1.alloc hz1' _).grown hgr5 (by simp; omega) (fun q hq => by simp [Value.ownBlock] at hq; omega)
        clear hown5 hgr5 hO1 hnew hT1
        go_wp2
        exact ⟨⟨r, ls ++ [a], b5, c5, rfl, by simp, by simpa using hT5, HX, HM2, by simp; omega, bel5⟩, by have h9 := HSZ.out; show (bs r).size < S.size; omega⟩
    · have hh : cur.head? ≠ some 39 := by
        cases cur with
        | nil => simp
        | cons c b => intro e; simp at e; exact hcur ⟨b, by rw [e]⟩
      have hHP := Tryd.strings_HasPrefix (bs cur) ⟨#[39]⟩ wr
      have hp1 : Lib.hasPrefix (bs cur).data.toList [39] = false := by
        rw [bs_data]
        unfold Lib.hasPrefix
        cases cur with
        | nil => rfl
        | cons c b => simp [List.isPrefixOf]; intro e; exact hh (by rw [← e]; rfl)
      have hHP2 : Calls Tryd.prog 19 #[.string (bs cur), .string ⟨#[39]⟩] wr fun e w' => e = .returned (.bool false) ∧ w' = wr := hHP.mono fun e w' ⟨h1, h2⟩ => ⟨by rw [h1, ← hp1], h2⟩
      have hq := HQ.out.fin hh
      have hJ := joinT_any w.heap.size yb yc ls.length ls ⟨#[39]⟩ wr 1048576 hT HM.out (by show (1048576 + 1) * ls.length ≤ _; omega) (by omega)
      have hjl : (bs (Lib.join ls [39])).size ≤ 281474976710656 := by
        rw [bs_size]
        refine Nat.le_trans (join_len ls [39] 1048576 HM.out) ?_
        show (1048576 + 1) * ls.length ≤ _
        omega
      have hJ2 : Calls Tryd.prog 29 #[.slice (some ⟨yb, 0, none⟩) ls.length yc, .string ⟨#[39]⟩] wr fun e w' => e = .returned (.string (bs (Lib.join ls [39]))) ∧ Below wr.heap.size wr w' := hJ
      have hCl := fun wz => clone_any (bs (Lib.join ls [39])) wz hjl
      have hokq : okQ b0 = decide (((bs (Lib.join ls [39])).size : Int) ≤ 100) := by
        unfold okQ; rw [hq]; dsimp only; rw [bs_size]; congr 1; rw [eq_iff_iff]; omega
      have HF : Hid (∀ p, qtx b0 = some p → bs (Lib.join ls [39]) = bs p.1 ∧ bs cur = bs p.2) := by
        intro p hp
        rw [hq] at hp
        injection hp with hp
        rw [← hp]; exact ⟨rfl, rfl⟩
      clear hHP hp1 hh hcur hJ hq HQ HM
      generalize bs (Lib.join ls [39]) = J at *
      generalize bs cur = S at *
      have HK : Hid (okQ b0 = decide ((J.size : Int) ≤ 100)) := hokq
      clear hokq
      have hbw := fun w1 (h : Below wr.heap.size wr w1) => hb.trans (h.mono hzb)
      go_wp2_with (first | (go_at_call 19; (with_reducible refine Calls.mono hHP2 ?_); rintro r0 w0 ⟨rfl, hw0⟩; obtain rfl : wr = w0 := hw0.symm) | (go_at_call 29; (with_reducible refine Calls.mono hJ2 ?_); rintro r1 w1 ⟨rfl, hb1⟩; have bel1 := hbw _ hb1; clear hb1 hbw) | (go_at_call 28; (with_reducible refine Calls.mono (hCl _) ?_); rintro r2 w2 ⟨rfl, hb2⟩; have bel2 : Below w.heap.size w w2 := (bel1.trans (hb2.mono bel1.size)); clear hb2) | fail)
      go_returns
      exact ⟨⟨J, S, by rw [HK.out]; rfl, fun _ p hp => HF.out p hp⟩, bel2⟩
end Go.Proofs.YtbobjfokampjbaaDoor
