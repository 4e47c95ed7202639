import Derived.Test.YtnpjknnalekdpaaBb
namespace Go.Proofs.Ytnpjknnalekdpaa
set_option linter.unusedSimpArgs false
set_option linter.unusedVariables false
open Go.RowKit
/-- What Encode answers, in one form. -/
def encC (t : Int) (b : List Int) : Int := if t = 0 then 1 else if 1000 < b.length then 5 else 0
def encL (t : Int) (b : List Int) : List Int := if t = 0 then [] else if 1000 < b.length then [] else encB t b
theorem EncOf.u {t : Int} {b : List Int} {w : World} {e : Ending} {w' : World} (h : EncOf t b w e w') (h0 : 0 < w.heap.size) : ∃ av L cp, e = .returned (.tuple #[.slice av L cp, .int .i64 (encC t b)]) ∧ PartAt w' (.slice av L cp) (encL t b) ∧ Below w.heap.size w w' := by
  obtain ⟨h1, h2⟩ := h
  have hz : 0 < w'.heap.size := by have := h1.size; omega
  unfold encC encL
  by_cases ht : t = 0
  · rw [if_pos ht] at h2
    rw [if_pos ht, if_pos ht]
    exact ⟨none, 0, 0, h2, part_none w' hz, h1⟩
  · rw [if_neg ht] at h2
    rw [if_neg ht, if_neg ht]
    by_cases hl : 1000 < b.length
    · rw [if_pos hl] at h2
      rw [if_pos hl, if_pos hl]
      exact ⟨none, 0, 0, h2, part_none w' hz, h1⟩
    · rw [if_neg hl] at h2
      rw [if_neg hl, if_neg hl]
      obtain ⟨u, r1, r2⟩ := h2
      have r2' := r2
      obtain ⟨av, b', o', cp, rfl, _⟩ := r2'
      exact ⟨av, _, cp, r1, r2, h1⟩
end Go.Proofs.Ytnpjknnalekdpaa
