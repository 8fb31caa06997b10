/- Own text. The map literal of impl.reckoningOf: five keys, one after another; and what is looked up in it. -/
import Derived.Test.YtbhojlchibmfpaaKit
import Derived.WideMake
import Derived.Carry
namespace Go.Proofs.Ytbhojlchibmfpaa
set_option linter.unusedVariables false
theorem set_pushed {α : Type} (xs : Array α) (a b : α) : (xs.push a).setIfInBounds xs.size b = xs.push b := by
  apply Array.ext
  · simp
  · intro i h1 h2
    simp at h1 h2
    rcases Nat.lt_or_ge i xs.size with h | h
    · rw [Array.getElem_setIfInBounds_ne (by simp; omega) (by omega)]; simp [Array.getElem_push, h]
    · obtain rfl : i = xs.size := by omega
      simp
theorem run_ins (w : World) (es : Array MapEntry) (c : Nat) (k : Int) (v : Value) (hf : Instr.findNow (.int .i64) (.int .i64 k) es.toList 0 = some none) :
    Sem.run Try.prog (Instr.mapUpdate 89 (.map (some w.heap.size)) (.int .i64 k) v) (w.alloc (.map es c)) = .ok () (w.alloc (.map (es.push ⟨.int .i64 k, v, c⟩) (c + 1))) := by
  have hk : Try.prog.underlying 3 = some (.int .i64) := by kernel_rfl
  have hm : Try.prog.underlying 89 = some (.map 3 65) := by kernel_rfl
  have hb := heap_alloc_new w (.map es c)
  have hc : (Instr.checkKey false 10000 3 (.int .i64 k)).run Try.prog (w.alloc (.map es c)) = .ok () (w.alloc (.map es c)) := MapKept.run_checkKey (k := .int .i64 k) hk (by simp [MapKept.IsKey]) false 9999
  simp [Instr.mapUpdate, run_underlying hm, MapKept.run_getObj_map hb, hc, MapKept.run_findKey hk hf, MapKept.run_setObj_map _ hb, Result.andThen]
  unfold World.alloc; dsimp only; rw [set_pushed]
theorem run_look (w : World) (es : Array MapEntry) (c : Nat) (k : Int) (i : Nat) (v : Value) (hf : Instr.findNow (.int .i64) (.int .i64 k) es.toList 0 = some (some (i, v))) :
    Sem.run Try.prog (Instr.lookup 89 (.map (some w.heap.size)) (.int .i64 k) false) (w.alloc (.map es c)) = .ok v (w.alloc (.map es c)) := by
  have hk : Try.prog.underlying 3 = some (.int .i64) := by kernel_rfl
  have hm : Try.prog.underlying 89 = some (.map 3 65) := by kernel_rfl
  have hb := heap_alloc_new w (.map es c)
  have hc : ∀ q, (Instr.checkKey q 10000 3 (.int .i64 k)).run Try.prog (w.alloc (.map es c)) = .ok () (w.alloc (.map es c)) := fun q => MapKept.run_checkKey (k := .int .i64 k) hk (by simp [MapKept.IsKey]) q 9999
  simp [Instr.lookup, run_underlying hm, MapKept.run_getObj_map hb, hc, MapKept.run_findKey hk hf, Result.andThen]
theorem ins0 (w : World) (v0 : Value) : Sem.run Try.prog (Instr.mapUpdate 89 (.map (some w.heap.size)) (.int .i64 0) v0) (w.alloc (.map #[] 0)) = .ok () (w.alloc (.map #[⟨.int .i64 0, v0, 0⟩] 1)) :=
  run_ins w #[] 0 0 v0 rfl
theorem ins1 (w : World) (v0 v1 : Value) : Sem.run Try.prog (Instr.mapUpdate 89 (.map (some w.heap.size)) (.int .i64 1) v1) (w.alloc (.map #[⟨.int .i64 0, v0, 0⟩] 1)) = .ok () (w.alloc (.map #[⟨.int .i64 0, v0, 0⟩, ⟨.int .i64 1, v1, 1⟩] 2)) :=
  run_ins w #[⟨.int .i64 0, v0, 0⟩] 1 1 v1 rfl
theorem ins2 (w : World) (v0 v1 v2 : Value) : Sem.run Try.prog (Instr.mapUpdate 89 (.map (some w.heap.size)) (.int .i64 2) v2) (w.alloc (.map #[⟨.int .i64 0, v0, 0⟩, ⟨.int .i64 1, v1, 1⟩] 2)) = .ok () (w.alloc (.map #[⟨.int .i64 0, v0, 0⟩, ⟨.int .i64 1, v1, 1⟩, ⟨.int .i64 2, v2, 2⟩] 3)) :=
  run_ins w #[⟨.int .i64 0, v0, 0⟩, ⟨.int .i64 1, v1, 1⟩] 2 2 v2 rfl
theorem ins3 (w : World) (v0 v1 v2 v3 : Value) : Sem.run Try.prog (Instr.mapUpdate 89 (.map (some w.heap.size)) (.int .i64 3) v3) (w.alloc (.map #[⟨.int .i64 0, v0, 0⟩, ⟨.int .i64 1, v1, 1⟩, ⟨.int .i64 2, v2, 2⟩] 3)) = .ok () (w.alloc (.map #[⟨.int .i64 0, v0, 0⟩, ⟨.int .i64 1, v1, 1⟩, ⟨.int .i64 2, v2, 2⟩, ⟨.int .i64 3, v3, 3⟩] 4)) :=
  run_ins w #[⟨.int .i64 0, v0, 0⟩, ⟨.int .i64 1, v1, 1⟩, ⟨.int .i64 2, v2, 2⟩] 3 3 v3 rfl
theorem ins4 (w : World) (v0 v1 v2 v3 v4 : Value) : Sem.run Try.prog (Instr.mapUpdate 89 (.map (some w.heap.size)) (.int .i64 4) v4) (w.alloc (.map #[⟨.int .i64 0, v0, 0⟩, ⟨.int .i64 1, v1, 1⟩, ⟨.int .i64 2, v2, 2⟩, ⟨.int .i64 3, v3, 3⟩] 4)) = .ok () (w.alloc (.map #[⟨.int .i64 0, v0, 0⟩, ⟨.int .i64 1, v1, 1⟩, ⟨.int .i64 2, v2, 2⟩, ⟨.int .i64 3, v3, 3⟩, ⟨.int .i64 4, v4, 4⟩] 5)) :=
  run_ins w #[⟨.int .i64 0, v0, 0⟩, ⟨.int .i64 1, v1, 1⟩, ⟨.int .i64 2, v2, 2⟩, ⟨.int .i64 3, v3, 3⟩] 4 4 v4 rfl
theorem look0 (w : World) (v0 v1 v2 v3 v4 : Value) : Sem.run Try.prog (Instr.lookup 89 (.map (some w.heap.size)) (.int .i64 0) false) (w.alloc (.map #[⟨.int .i64 0, v0, 0⟩, ⟨.int .i64 1, v1, 1⟩, ⟨.int .i64 2, v2, 2⟩, ⟨.int .i64 3, v3, 3⟩, ⟨.int .i64 4, v4, 4⟩] 5)) = .ok v0 (w.alloc (.map #[⟨.int .i64 0, v0, 0⟩, ⟨.int .i64 1, v1, 1⟩, ⟨.int .i64 2, v2, 2⟩, ⟨.int .i64 3, v3, 3⟩, ⟨.int .i64 4, v4, 4⟩] 5)) :=
  run_look w #[⟨.int .i64 0, v0, 0⟩, ⟨.int .i64 1, v1, 1⟩, ⟨.int .i64 2, v2, 2⟩, ⟨.int .i64 3, v3, 3⟩, ⟨.int .i64 4, v4, 4⟩] 5 0 0 v0 rfl
theorem look1 (w : World) (v0 v1 v2 v3 v4 : Value) : Sem.run Try.prog (Instr.lookup 89 (.map (some w.heap.size)) (.int .i64 1) false) (w.alloc (.map #[⟨.int .i64 0, v0, 0⟩, ⟨.int .i64 1, v1, 1⟩, ⟨.int .i64 2, v2, 2⟩, ⟨.int .i64 3, v3, 3⟩, ⟨.int .i64 4, v4, 4⟩] 5)) = .ok v1 (w.alloc (.map #[⟨.int .i64 0, v0, 0⟩, ⟨.int .i64 1, v1, 1⟩, ⟨.int .i64 2, v2, 2⟩, ⟨.int .i64 3, v3, 3⟩, ⟨.int .i64 4, v4, 4⟩] 5)) :=
  run_look w #[⟨.int .i64 0, v0, 0⟩, ⟨.int .i64 1, v1, 1⟩, ⟨.int .i64 2, v2, 2⟩, ⟨.int .i64 3, v3, 3⟩, ⟨.int .i64 4, v4, 4⟩] 5 1 1 v1 rfl
theorem look2 (w : World) (v0 v1 v2 v3 v4 : Value) : Sem.run Try.prog (Instr.lookup 89 (.map (some w.heap.size)) (.int .i64 2) false) (w.alloc (.map #[⟨.int .i64 0, v0, 0⟩, ⟨.int .i64 1, v1, 1⟩, ⟨.int .i64 2, v2, 2⟩, ⟨.int .i64 3, v3, 3⟩, ⟨.int .i64 4, v4, 4⟩] 5)) = .ok v2 (w.alloc (.map #[⟨.int .i64 0, v0, 0⟩, ⟨.int .i64 1, v1, 1⟩, ⟨.int .i64 2, v2, 2⟩, ⟨.int .i64 3, v3, 3⟩, ⟨.int .i64 4, v4, 4⟩] 5)) :=
  run_look w #[⟨.int .i64 0, v0, 0⟩, ⟨.int .i64 1, v1, 1⟩, ⟨.int .i64 2, v2, 2⟩, ⟨.int .i64 3, v3, 3⟩, ⟨.int .i64 4, v4, 4⟩] 5 2 2 v2 rfl
theorem look3 (w : World) (v0 v1 v2 v3 v4 : Value) : Sem.run Try.prog (Instr.lookup 89 (.map (some w.heap.size)) (.int .i64 3) false) (w.alloc (.map #[⟨.int .i64 0, v0, 0⟩, ⟨.int .i64 1, v1, 1⟩, ⟨.int .i64 2, v2, 2⟩, ⟨.int .i64 3, v3, 3⟩, ⟨.int .i64 4, v4, 4⟩] 5)) = .ok v3 (w.alloc (.map #[⟨.int .i64 0, v0, 0⟩, ⟨.int .i64 1, v1, 1⟩, ⟨.int .i64 2, v2, 2⟩, ⟨.int .i64 3, v3, 3⟩, ⟨.int .i64 4, v4, 4⟩] 5)) :=
  run_look w #[⟨.int .i64 0, v0, 0⟩, ⟨.int .i64 1, v1, 1⟩, ⟨.int .i64 2, v2, 2⟩, ⟨.int .i64 3, v3, 3⟩, ⟨.int .i64 4, v4, 4⟩] 5 3 3 v3 rfl
theorem look4 (w : World) (v0 v1 v2 v3 v4 : Value) : Sem.run Try.prog (Instr.lookup 89 (.map (some w.heap.size)) (.int .i64 4) false) (w.alloc (.map #[⟨.int .i64 0, v0, 0⟩, ⟨.int .i64 1, v1, 1⟩, ⟨.int .i64 2, v2, 2⟩, ⟨.int .i64 3, v3, 3⟩, ⟨.int .i64 4, v4, 4⟩] 5)) = .ok v4 (w.alloc (.map #[⟨.int .i64 0, v0, 0⟩, ⟨.int .i64 1, v1, 1⟩, ⟨.int .i64 2, v2, 2⟩, ⟨.int .i64 3, v3, 3⟩, ⟨.int .i64 4, v4, 4⟩] 5)) :=
  run_look w #[⟨.int .i64 0, v0, 0⟩, ⟨.int .i64 1, v1, 1⟩, ⟨.int .i64 2, v2, 2⟩, ⟨.int .i64 3, v3, 3⟩, ⟨.int .i64 4, v4, 4⟩] 5 4 4 v4 rfl
end Go.Proofs.Ytbhojlchibmfpaa
