import Derived.Test.YtnpjknnalekdpaaDoorTh
import Derived.Test.YtnpjknnalekdpaaDoorFr
namespace Go.Proofs.YtnpjknnalekdpaaDoor
set_option linter.unusedSimpArgs false
set_option linter.unusedVariables false
open Go.RowKit
theorem row_range2 {w : World} {g : Nat} {x y : Value} {ty : TypeId} (h : w.heap[g]? = some (.cells #[x, y] ty)) : w.rangeAt g 0 [x, y] := fun j z hz => by
  rw [Nat.zero_add]
  match j, hz with
  | 0, hz => exact row_cell h (by simpa using hz)
  | 1, hz => exact row_cell h (by simpa using hz)
  | j + 2, hz => simp at hz
end Go.Proofs.YtnpjknnalekdpaaDoor
