import Derived.Test.YtnpjknnalekdpaaDoorFh
namespace Go.Proofs.YtnpjknnalekdpaaDoor
set_option linter.unusedSimpArgs false
set_option linter.unusedVariables false
open Go.RowKit
/-- A store into an older block leaves a row of the call's own as it was. -/
theorem own_setRow {w : World} {base : Nat} {v : Value} {l : List Int} (h : OwnB w base v l) {g : Nat} (hg : g < base) (cs : Array Value) : OwnB (w.setRow g cs) base v l := by
  obtain ⟨h1, h2⟩ := h
  refine ⟨h1, ?_⟩
  rcases h2 with h2 | ⟨b, n, cs', q1, q2, q3, q⟩
  · exact Or.inl h2
  · exact Or.inr ⟨b, n, cs', q1, q2, by rw [setRow_far _ _ _ _ (by omega)]; exact q3, q⟩
end Go.Proofs.YtnpjknnalekdpaaDoor
