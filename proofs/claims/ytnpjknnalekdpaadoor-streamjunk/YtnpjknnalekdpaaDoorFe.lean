import Derived.Test.YtnpjknnalekdpaaDoorFx
namespace Go.Proofs.YtnpjknnalekdpaaDoor
set_option linter.unusedSimpArgs false
set_option linter.unusedVariables false
open Go.RowKit
/-- A frame's bytes. -/
def encB (t : Int) (b : List Int) : List Int := [114, 100, 1] ++ ((t :: numB b.length 2) ++ (sum4 t b ++ b))
theorem encB_length (t : Int) (b : List Int) : (encB t b).length = b.length + 10 := by
  unfold encB; simp [numB_length, sum4_length]; omega
/-- What Encode answers. -/
def EncOf (t : Int) (b : List Int) (w : World) (e : Ending) (w' : World) : Prop :=
  Below w.heap.size w w' ∧ (if t = 0 then e = .returned (.tuple #[.slice none 0 0, .int .i64 1]) else if 1000 < b.length then e = .returned (.tuple #[.slice none 0 0, .int .i64 5]) else ∃ u, e = .returned (.tuple #[u, .int .i64 0]) ∧ PartAt w' u (encB t b))
end Go.Proofs.YtnpjknnalekdpaaDoor
