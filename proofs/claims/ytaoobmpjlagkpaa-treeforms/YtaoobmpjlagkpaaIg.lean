import Derived.Test.YtaoobmpjlagkpaaId
import Derived.Test.YtaoobmpjlagkpaaIe
import Derived.Test.YtaoobmpjlagkpaaIf
namespace Go.Proofs.Ytaoobmpjlagkpaa
set_option linter.unusedSimpArgs false
set_option linter.unusedVariables false
open Go.RowKit
open Go.Deep
theorem rleast_any (t : T) : LeastP 40 t := by
  induction t using T.ind; rename_i h l ih
  obtain ⟨k, c, x0, x1, x2, x3, nn, lo, hi⟩ := h
  by_cases k1 : k = 1
  · subst k1; exact rleast_1 c x0 x1 x2 x3 nn lo hi l ih
  by_cases k2 : k = 2
  · subst k2; exact rleast_2 c x0 x1 x2 x3 nn lo hi l ih
  by_cases k3 : k = 3
  · subst k3; exact rleast_3 c x0 x1 x2 x3 nn lo hi l ih
  by_cases k6 : k = 6
  · subst k6; exact rleast_6 c x0 x1 x2 x3 nn lo hi l ih
  by_cases k8 : k = 8
  · subst k8; exact rleast_8 c x0 x1 x2 x3 nn lo hi l ih
  by_cases k9 : k = 9
  · subst k9; exact rleast_9 c x0 x1 x2 x3 nn lo hi l ih
  by_cases k10 : k = 10
  · subst k10; exact rleast_10 c x0 x1 x2 x3 nn lo hi l ih
  exact rleast_k k c x0 x1 x2 x3 nn lo hi l ih k1 k2 k3 k6 k8 k9 k10
end Go.Proofs.Ytaoobmpjlagkpaa
