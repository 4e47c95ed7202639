import Derived.Test.YtnpjknnalekdpaaDoorTy
namespace Go.Proofs.YtnpjknnalekdpaaDoor
set_option linter.unusedSimpArgs false
set_option linter.unusedVariables false
open Go.RowKit
/-- The law's memory while it writes the frames: all bytes, and the frames that are wanted. -/
structure LoopS (w0 w : World) (v5 v6 : Value) (acc : List Int) (fs : List (Int × List Int)) (us : List Value) : Prop where
  bel : Below w0.heap.size w0 w
  all : OwnB w w0.heap.size v5 acc
  want : WantS w0 w v6 fs us
theorem LoopS.below {w0 w w' : World} {v5 v6 : Value} {acc : List Int} {fs : List (Int × List Int)} {us : List Value} (h : LoopS w0 w v5 v6 acc fs us) (b : Below w.heap.size w w') : LoopS w0 w' v5 v6 acc fs us :=
  ⟨h.bel.trans (b.mono h.bel.size), own_belowR h.all b, h.want.below b⟩
theorem own5 {w : World} {base : Nat} {v : Value} {l : List Int} (h : OwnB w base v l) (b : Nat) (hb : v.ownBlock = some b) : base ≤ b ∧ ∃ C m, w.heap[b]? = some (.cells C 5 m) := by
  rcases h.2 with ⟨q, _⟩ | ⟨g0, cap, cur0, q1, q2, q3, _⟩
  · rw [q] at hb; cases hb
  · rw [q1] at hb
    have hb : some g0 = some b := hb
    injection hb with hb
    subst hb
    exact ⟨q2, _, _, q3⟩
end Go.Proofs.YtnpjknnalekdpaaDoor
namespace Go.Proofs.YtnpjknnalekdpaaDoor
set_option linter.unusedSimpArgs false
set_option linter.unusedVariables false
open Go.RowKit
end Go.Proofs.YtnpjknnalekdpaaDoor
