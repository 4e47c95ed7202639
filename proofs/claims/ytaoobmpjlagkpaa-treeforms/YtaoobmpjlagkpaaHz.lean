import Derived.Test.YtaoobmpjlagkpaaFf
namespace Go.Proofs.Ytaoobmpjlagkpaa
set_option linter.unusedSimpArgs false
set_option linter.unusedVariables false
open Go.RowKit
open Go.Deep
theorem walk_ok : (∀ t, ∀ (s q : Gs), walkT t s = some q → GsOk s → GsOk q) ∧ ∀ l, ∀ (pk : Int) (s q : Gs), walkL l pk s = some q → GsOk s → GsOk q := by
  refine T.both (p := fun t => ∀ (s q : Gs), walkT t s = some q → GsOk s → GsOk q) (q := fun l => ∀ (pk : Int) (s q : Gs), walkL l pk s = some q → GsOk s → GsOk q) (fun h l ih s q e k => ?_) (fun pk s q e k => ?_) (fun t r x y pk s q e k => ?_)
  · unfold walkT at e
    rw [T.hd_mk, T.kids_mk] at e
    split at e
    · cases e
    · cases h1 : stepN h s with
      | none => rw [h1] at e; cases e
      | some s1 =>
        rw [h1] at e
        simp only [Option.bind_some] at e
        cases h2 : walkL l h.k s1 with
        | none => rw [h2] at e; cases e
        | some q2 =>
          rw [h2] at e
          injection e with e
          rw [← e]
          exact endN_ok (ih _ _ _ h2 (stepN_ok h1 k).1)
  · rw [walkL_nil] at e; injection e with e; rw [← e]; exact k
  · rw [walkL_cons] at e
    split at e
    · cases e
    · cases h1 : walkT t s with
      | none => rw [h1] at e; cases e
      | some q1 => rw [h1] at e; exact y _ _ _ e (x _ _ h1 k)
end Go.Proofs.Ytaoobmpjlagkpaa
