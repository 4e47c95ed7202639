import Derived.Test.YtnpjknnalekdpaaDoorTf
namespace Go.Proofs.YtnpjknnalekdpaaDoor
set_option linter.unusedSimpArgs false
set_option linter.unusedVariables false
open Go.RowKit
theorem gi_beg (m : List Int) (i : Nat) (hi : i < 6) : gi (begOf m) i = if i < m.length then gi m i else gi [114, 100, 1, 1, 0, 0] i := by
  unfold begOf gi
  by_cases h : i < m.length
  · rw [if_pos h, List.getD_eq_getElem?_getD, List.getD_eq_getElem?_getD, List.getElem?_append_left (by rw [List.length_take]; omega), List.getElem?_take_of_lt hi]
  · have hl : (m.take 6).length = m.length := by rw [List.length_take]; omega
    rw [if_neg h, List.getD_eq_getElem?_getD, List.getD_eq_getElem?_getD, List.getElem?_append_right (by omega), List.getElem?_drop, hl, show m.length + (i - m.length) = i by omega]
end Go.Proofs.YtnpjknnalekdpaaDoor
