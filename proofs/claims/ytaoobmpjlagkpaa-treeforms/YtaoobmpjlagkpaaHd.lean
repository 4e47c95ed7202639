import Derived.Test.YtaoobmpjlagkpaaHc0
import Derived.Test.YtaoobmpjlagkpaaHc1
import Derived.Test.YtaoobmpjlagkpaaHc6
import Derived.Test.YtaoobmpjlagkpaaHc7
import Derived.Test.YtaoobmpjlagkpaaHc8
import Derived.Test.YtaoobmpjlagkpaaHc9
import Derived.Test.YtaoobmpjlagkpaaHc10
namespace Go.Proofs.Ytaoobmpjlagkpaa
set_option linter.unusedSimpArgs false
set_option linter.unusedVariables false
open Go.RowKit
open Go.Deep
/-- The reference's walk. -/
theorem walk_any (t : T) : WalkP t := by
  induction t using T.ind; rename_i h l ih
  obtain ⟨k, c, x0, x1, x2, x3, nn, lo, hi⟩ := h
  cases hpl : plainB ⟨k, c, x0, x1, x2, x3, nn, lo, hi⟩ l with
  | false => exact walk_plain k c x0 x1 x2 x3 nn lo hi l ih hpl
  | true =>
    by_cases k6 : k = 6
    · subst k6; exact walk_6 c x0 x1 x2 x3 nn lo hi l ih hpl
    · by_cases k7 : k = 7
      · subst k7; exact walk_7 c x0 x1 x2 x3 nn lo hi l ih hpl
      · by_cases k8 : k = 8
        · subst k8; exact walk_8 c x0 x1 x2 x3 nn lo hi l ih hpl
        · by_cases k9 : k = 9
          · subst k9; exact walk_9 c x0 x1 x2 x3 nn lo hi l ih hpl
          · by_cases k10 : k = 10
            · subst k10; exact walk_10 c x0 x1 x2 x3 nn lo hi l ih hpl
            · exact walk_other k c x0 x1 x2 x3 nn lo hi l ih hpl k6 k7 k8 k9 k10
end Go.Proofs.Ytaoobmpjlagkpaa
