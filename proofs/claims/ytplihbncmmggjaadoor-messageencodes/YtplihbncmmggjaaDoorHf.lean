import Derived.Test.YtplihbncmmggjaaDoorHd
import Derived.Test.YtplihbncmmggjaaDoorHe
namespace Go.Proofs.YtplihbncmmggjaaDoor
set_option linter.unusedSimpArgs false
set_option linter.unusedVariables false
open Go.RowKit
theorem rwrite_own (m : Msg) (hm : m.Ok) (h : formB m = true) (w : World) (h0 : 0 < w.heap.size) : Calls Tryd.prog 40 #[.agg (mC m).toArray] w fun e w' => ∃ u, e = .returned (.tuple #[u, .int .i64 0]) ∧ OwnB w' w.heap.size u (encB m.kind (bodyB m)) ∧ Below w.heap.size w w' := by
  by_cases h1 : m.kind = 1
  · exact rwrite_1 m hm h h1 w h0
  by_cases h2 : m.kind = 2
  · cases hy : m.yes with
    | true => exact rwrite_2y m hm h h2 hy w h0
    | false => exact rwrite_2n m hm h h2 hy w h0
  by_cases h3 : m.kind = 3
  · exact rwrite_3 m hm h h3 w h0
  by_cases h6 : m.kind = 6
  · exact rwrite_6 m hm h h6 w h0
  exact rwrite_other m hm h h1 h2 h3 h6 w h0
end Go.Proofs.YtplihbncmmggjaaDoor
