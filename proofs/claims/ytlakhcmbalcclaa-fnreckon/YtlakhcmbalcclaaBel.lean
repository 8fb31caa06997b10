/- Own text. A world that lies below another one, by the steps that made it. -/
import Derived.Test.YtlakhcmbalcclaaKit
import Derived.Handy
namespace Go.Proofs.Ytlakhcmbalcclaa
open Go.RowKit
set_option linter.unusedVariables false
theorem bel {N : Nat} {w w' : World} (h : Below N w w' := by repeat (first | (with_reducible exact Below.refl _ _) | (with_reducible refine Below.drew ?_) | (with_reducible refine Below.alloc ?_ ?hh _; case hh => first | (simp; done) | (simp; omega) | omega) | (with_reducible refine Below.setCell ?_ ?hh _; case hh => first | (simp; done) | (simp; omega) | omega) | refine bstep (by assumption) (by first | (simp; done) | (simp; omega) | omega) ?_)) : Below N w w' := h
end Go.Proofs.Ytlakhcmbalcclaa
