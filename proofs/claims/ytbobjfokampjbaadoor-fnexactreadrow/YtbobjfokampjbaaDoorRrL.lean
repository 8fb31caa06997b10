/- Own text. The contract of the model's l08Quoted. -/
import Derived.Test.YtbobjfokampjbaaDoorRrP
import Derived.Test.YtbobjfokampjbaaDoorBsK
import Derived.Test.YtbobjfokampjbaaDoorVrK
import Derived.Maps.AppendAt
import Derived.Lib.SmallJoins
import Derived.Handy
namespace Go.Proofs.YtbobjfokampjbaaDoor
open Go.RowKit Go.ChangeShapes Go.WideShapes
set_option linter.unusedVariables false
theorem infoU8 : (Tryd.prog.info? 5).map (fun i => (i.zero, i.size, i.bytes)) = some (some (.int .u8 0), 1, 1) := by kernel_rfl
/-- bytes as values. -/
def bv (o : List UInt8) : List Value := (o.map fun c => (c.toNat : Int)).map (Value.int .u8)
theorem bv_push (o : List UInt8) (c : UInt8) : bv (o ++ [c]) = bv o ++ [.int .u8 c.toNat] := by simp [bv]
theorem bv_len (o : List UInt8) : (bv o).length = o.length := by simp [bv]
theorem str_bv (o : List UInt8) : strOfNums (o.map fun c => (c.toNat : Int)) = bs o := by
  unfold strOfNums bs
  rw [List.map_map]
  have : (o.map ((fun n => UInt8.ofNat n.toNat) ∘ fun c => ((c.toNat : Nat) : Int))) = o := by
    conv => rhs; rw [← List.map_id o]
    refine List.map_congr_left fun c _ => ?_
    simp
  first | rw [this] | simp [this]
theorem conv_bv {w : World} {B g cap : Nat} (o : List UInt8) (h : w.ownsRow B 5 1 (.slice (some ⟨g, 0, none⟩) o.length cap) o.length (bv o)) : (convert 49 9 (.slice (some ⟨g, 0, none⟩) o.length cap)).run Tryd.prog w = .ok (.string (bs o)) w := by
  rw [← str_bv]
  refine run_convert_bytes_arg w 49 5 Tryd.underlying49 Tryd.underlying5 g 0 o.length cap _ (by simp) ?_ 9 Tryd.underlying9
  intro i hi
  rw [Nat.zero_add, h.cellAt i (by omega)]
  simp [List.getD, bv, List.getElem?_eq_getElem hi]
/-- what l08Quoted answers. -/
def qT (l : List UInt8) : ByteArray := match qtx l with
  | some p => bs p.1
  | none => ⟨#[]⟩
def qE (n : Nat) (l : List UInt8) : Int := match qtx l with
  | some p => ((n - p.2.length : Nat) : Int)
  | none => -1
theorem drop_at (s : ByteArray) (k : Nat) (h : k < s.size) : s.data.toList.drop k = s[k] :: s.data.toList.drop (k + 1) := by
  have h2 : k < s.data.toList.length := by simpa using h
  rw [List.drop_eq_getElem_cons h2]
  congr 1
set_option maxHeartbeats 4000000 in
set_option maxRecDepth 100000 in
theorem l08Quoted_any (s : ByteArray) (i : Nat) (l0 : List UInt8) (w : World) (HL0 : Hid (s.data.toList.drop (i + 1) = l0)) (hs : s.size ≤ 1048576) (hi : i ≤ s.size) :
    Calls Tryd.prog 15 #[.string s, .int .i64 i] w fun e w' => e = .returned (.tuple #[.string (qT l0), .int .i64 (qE s.size l0)]) ∧ Below w.heap.size w w' := by
  obtain ⟨i0, hi0, hz0, hz1, hz2⟩ := info_parts infoU8
  have hwi : wrap64 ((i : Int) + 1) = ((i + 1 : Nat) : Int) := by unfold wrap64; omega
  go_enter Tryd.func15, Tryd.ntmps15
  go_wp2_with fail
  go_loopw [6, 7] (fun u x wr => ∃ (k : Nat) (o : List UInt8) (g cap : Nat), k ≤ s.size + 1 ∧ x = .int .i64 k ∧ u = .slice (some ⟨g, 0, none⟩) o.length cap ∧ wr.ownsRow w.heap.size 5 1 (.slice (some ⟨g, 0, none⟩) o.length cap) o.length (bv o) ∧ Hid (qtx l0 = (qtx (s.data.toList.drop k)).map (fun p => (o ++ p.1, p.2))) ∧ o.length ≤ k ∧ Below w.heap.size w wr) (fun _ x _ => s.size + 1 - (intOf x).toNat)
  case atStart =>
    have hst : (w.alloc (.cells #[] 5)).ownsRow w.heap.size 5 1 (.slice (some ⟨w.heap.size, 0, none⟩) ([] : List UInt8).length 0) ([] : List UInt8).length (bv []) := own_empty w 5 1
    refine ⟨i + 1, [], w.heap.size, 0, by omega, by go_num, rfl, hst, ?_, by simp, by repeat (first | (with_reducible exact Below.refl _ _) | (with_reducible refine Below.drew ?_) | (with_reducible refine Below.alloc ?_ ?hh _; case hh => first | (simp; done) | (simp; omega) | omega) | (with_reducible refine Below.setCell ?_ ?hh _; case hh => first | (simp; done) | (simp; omega) | omega) | refine bstep (by assumption) (by first | (simp; done) | (simp; omega) | omega) ?_)⟩
    show _ = _
    rw [HL0.out]; simp
  case round =>
    obtain ⟨k, o, g, cap, hk, rfl, rfl, hO, HQ, hol, hb⟩ := hrel
    have hzb := hb.size
    by_cases hlt : k < s.size
    · have hltI : (k : Int) < s.size := by omega
      have hd := drop_at s k hlt
      have hw1 : wrap64 ((k : Int) + 1) = ((k + 1 : Nat) : Int) := by unfold wrap64; omega
      have hw2 : IntKind.i64.wrap ((k : Int) + 1) = ((k + 1 : Nat) : Int) := by rw [IntKind.wrap_i64]; omega
      by_cases h39 : s[k] = 39
      · have hc : ((s[k].toNat : Int) == 39) = true := by rw [h39]; rfl
        have hcv := conv_bv o hO
        by_cases hend : s.size ≤ k + 1
        · have hendI : (s.size : Int) ≤ ((k + 1 : Nat) : Int) := by omega
          have HF : Hid (qT l0 = bs o ∧ qE s.size l0 = ((k + 1 : Nat) : Int)) := by
            have e1 : s.data.toList.drop (k + 1) = [] := List.drop_eq_nil_of_le (by simpa using hend)
            have e2 : qtx l0 = some (o, []) := by rw [HQ.out, hd, h39, e1]; simp [qtx]
            unfold qT qE; rw [e2]
            exact ⟨rfl, by simp; omega⟩
          clear HQ hd hw1
          go_wp2_with fail
          go_returns
          rw [HF.out.1, HF.out.2]
          exact ⟨rfl, hb⟩
        · have hlt2 : k + 1 < s.size := by omega
          have hendI : decide ((s.size : Int) ≤ ((k + 1 : Nat) : Int)) = false := by simp; omega
          have hd2 := drop_at s (k + 1) hlt2
          by_cases h40 : s[k + 1] = 39
          · have hc2 : ((s[k + 1].toNat : Int) != 39) = false := by rw [h40]; rfl
            have HX : Hid (qtx l0 = (qtx (s.data.toList.drop (k + 2))).map (fun p => ((o ++ [39]) ++ p.1, p.2))) := by
              show _ = _
              rw [HQ.out, hd, h39, hd2, h40, qtx_two]
              simp [Option.map_map, Function.comp_def]
            clear HQ hd hd2 hcv
            go_wp2_with (at_builtin; refine wpList_append_own _ rfl _ _ 49 rfl w.heap.size 5 i0 (.int .u8 0) 1 1 Tryd.underlying49 hi0 hz0 hz1 hz2 rfl (by decide) (.slice (some ⟨g, 0, none⟩) o.length cap) o.length (bv o) rfl ?hown ⟨wr.heap.size, 0, none⟩ 1 1 [.int .u8 39] rfl rfl ?c1 ?c2 ?c3 ?c4 ?c5 ?_)
            case hown => exact hO.alloc _
            case c1 => exact cell_one_new _ _ _
            case c2 => intro y hy; rcases List.mem_singleton.1 hy with rfl; rfl
            case c3 => unfold maxLen; omega
            case c4 => omega
            case c5 => simp; omega
            intro v' w2 hO2 hgrow _
            have hb2 : Below w.heap.size w w2 := Below.grown (by repeat (first | (with_reducible exact Below.refl _ _) | (with_reducible refine Below.drew ?_) | (with_reducible refine Below.alloc ?_ ?hh _; case hh => first | (simp; done) | (simp; omega) | omega) | (with_reducible refine Below.setCell ?_ ?hh _; case hh => first | (simp; done) | (simp; omega) | omega) | refine bstep (by assumption) (by first | (simp; done) | (simp; omega) | omega) ?_)) hgrow (by simp; omega) (fun b hb => by have := (ownsRow_lt hO b hb).1; omega)
            obtain ⟨g2, c2, rfl⟩ := Go.Joins.ownsRow_form hO2 (by omega)
            have hO3 : w2.ownsRow w.heap.size 5 1 (.slice (some ⟨g2, 0, none⟩) (o ++ [39]).length c2) (o ++ [39]).length (bv (o ++ [39])) := by rw [bv_push]; simpa using hO2
            clear hO hO2 hgrow hb
            go_wp2
            exact ⟨⟨k + 2, o ++ [39], g2, c2, by omega, by simp; omega, by simp, hO3, HX, by simp; omega, hb2⟩, by simp [intOf]; omega⟩
          · have hc2 : ((s[k + 1].toNat : Int) != 39) = true := by
              simp only [bne_iff_ne, ne_eq]
              intro e
              exact h40 (UInt8.toNat_inj.1 (by show s[k + 1].toNat = 39; omega))
            have HF : Hid (qT l0 = bs o ∧ qE s.size l0 = ((k + 1 : Nat) : Int)) := by
              have e2 : qtx l0 = some (o, s.data.toList.drop (k + 1)) := by rw [HQ.out, hd, h39, qtx_end _ (by rw [hd2]; simpa using h40)]; simp
              unfold qT qE; rw [e2]
              exact ⟨rfl, by simp; omega⟩
            clear HQ hd hd2 hw1
            go_wp2_with fail
            go_returns
            rw [HF.out.1, HF.out.2]
            exact ⟨rfl, hb⟩
      · have hc : ((s[k].toNat : Int) == 39) = false := by
          rw [beq_eq_false_iff_ne]
          intro e
          exact h39 (UInt8.toNat_inj.1 (by show s[k].toNat = 39; omega))
        have HX : Hid (qtx l0 = (qtx (s.data.toList.drop (k + 1))).map (fun p => ((o ++ [s[k]]) ++ p.1, p.2))) := by
          show _ = _
          rw [HQ.out, hd, qtx_plain h39]
          simp [Option.map_map, Function.comp_def]
        clear HQ hd
        go_wp2_with (at_builtin; refine wpList_append_own _ rfl _ _ 49 rfl w.heap.size 5 i0 (.int .u8 0) 1 1 Tryd.underlying49 hi0 hz0 hz1 hz2 rfl (by decide) (.slice (some ⟨g, 0, none⟩) o.length cap) o.length (bv o) rfl ?hown ⟨wr.heap.size, 0, none⟩ 1 1 [.int .u8 s[k].toNat] rfl rfl ?c1 ?c2 ?c3 ?c4 ?c5 ?_)
        case hown => exact hO.alloc _
        case c1 => exact cell_one_new _ _ _
        case c2 => intro y hy; rcases List.mem_singleton.1 hy with rfl; rfl
        case c3 => unfold maxLen; omega
        case c4 => omega
        case c5 => simp; omega
        intro v' w2 hO2 hgrow _
        have hb2 : Below w.heap.size w w2 := Below.grown (by repeat (first | (with_reducible exact Below.refl _ _) | (with_reducible refine Below.drew ?_) | (with_reducible refine Below.alloc ?_ ?hh _; case hh => first | (simp; done) | (simp; omega) | omega) | (with_reducible refine Below.setCell ?_ ?hh _; case hh => first | (simp; done) | (simp; omega) | omega) | refine bstep (by assumption) (by first | (simp; done) | (simp; omega) | omega) ?_)) hgrow (by simp; omega) (fun b hb => by have := (ownsRow_lt hO b hb).1; omega)
        obtain ⟨g2, c2, rfl⟩ := Go.Joins.ownsRow_form hO2 (by omega)
        have hO3 : w2.ownsRow w.heap.size 5 1 (.slice (some ⟨g2, 0, none⟩) (o ++ [s[k]]).length c2) (o ++ [s[k]]).length (bv (o ++ [s[k]])) := by rw [bv_push]; simpa using hO2
        clear hO hO2 hgrow hb
        go_wp2
        exact ⟨⟨k + 1, o ++ [s[k]], g2, c2, by omega, by simp, by simp, hO3, HX, by simp; omega, hb2⟩, by simp [intOf]; omega⟩
    · have hex : Hid (qT l0 = ⟨#[]⟩ ∧ qE s.size l0 = -1) := by
        have e1 : s.data.toList.drop k = [] := List.drop_eq_nil_of_le (by simp; omega)
        have e2 : qtx l0 = none := by rw [HQ.out, e1]; rfl
        unfold qT qE; rw [e2]
        exact ⟨rfl, rfl⟩
      have hltI : decide ((k : Int) < s.size) = false := by simp; omega
      clear HQ
      go_wp2_with fail
      go_returns
      rw [hex.out.1, hex.out.2]
      exact ⟨rfl, hb⟩
end Go.Proofs.YtbobjfokampjbaaDoor
