import Derived.Test.YtndmjndokokmnaaXb
import Derived.ProofKit
import Derived.OpenShut
import Derived.ChangeOld
import Derived.Deep.DeepHandedRow
import Derived.SizedLaws
import Derived.DataReads
import Derived.ChangeArms
import Derived.Lib.LaidTab
import Derived.Shelf.Vars
namespace Go.Proofs.Ytndmjndokokmnaa
set_option linter.unusedSimpArgs false
set_option linter.unusedVariables false
open Go.ChangeShapes Go.WideShapes Go.ChangeAt Go.RowKit
theorem own : ownKnob Try.prog.godebug = none := by kernel_rfl
theorem laidOut : laidOutB Try.prog = true := by kernel_rfl
theorem maxL_of {W : World} (h : W.ShapedOpen Try.prog) : MaxL W := by
  obtain ⟨m, hm⟩ := cell_of_shapedOpen_int (g := 0) (t := 3) (zero := #[.int .i64 0]) (k := .i64) h (of_decide_eq_true (by kernel_rfl)) (by kernel_rfl) (by kernel_rfl) (by kernel_rfl) (by kernel_rfl) Try.underlying3
  refine ⟨⟨m, hm⟩, ?_⟩
  rcases Nat.eq_zero_or_pos W.heap.size with h0 | h0
  · exfalso
    have e : W.heap[0]? = none := by rw [Array.getElem?_eq_none]; omega
    have hc : W.cell? ⟨0, 0, none⟩ = none := by simp [World.cell?, e]
    rw [hc] at hm; cases hm
  · exact h0
end Go.Proofs.Ytndmjndokokmnaa
