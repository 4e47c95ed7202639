import Derived.Test.YtnpjknnalekdpaaDoorGz
import Derived.Test.YtnpjknnalekdpaaDoorFr
namespace Go.Proofs.YtnpjknnalekdpaaDoor
set_option linter.unusedSimpArgs false
set_option linter.unusedVariables false
open Go.RowKit
end Go.Proofs.YtnpjknnalekdpaaDoor
namespace Go.Proofs.YtnpjknnalekdpaaDoor
set_option linter.unusedSimpArgs false
set_option linter.unusedVariables false
open Go.RowKit
end Go.Proofs.YtnpjknnalekdpaaDoor
namespace Go.Proofs.YtnpjknnalekdpaaDoor
set_option linter.unusedSimpArgs false
set_option linter.unusedVariables false
open Go.RowKit
/-- A text as bytes. -/
theorem conv_text (s : ByteArray) (hs : s.size ≤ 1000000) (w : World) : ∃ cap, (convert 9 22 (.string s)).run Tryd.prog w = .ok (.slice (some ⟨w.heap.size, 0, none⟩) s.size cap) (Lib.bytesWorld w 5 s) ∧ PartAt (Lib.bytesWorld w 5 s) (.slice (some ⟨w.heap.size, 0, none⟩) s.size cap) (nB s) := by
  have h := Lib.run_convert_string_bytes (P := Tryd.prog) w 9 22 5 s Tryd.underlying9 Tryd.underlying22 Tryd.underlying5
  have hg := Lib.bytesWorld_at_new w 5 s
  refine ⟨_, h, ⟨some ⟨w.heap.size, 0, none⟩, w.heap.size, 0, _, by rw [nB_length], by rw [nB_length]; exact grownCap_ge w s.size 0 5, by have := grownCap_le_maxLen w s.size 0 5 (by unfold maxLen; omega); unfold maxLen at this; omega, fun _ => rfl, fun j v hv => ?_, by rw [Lib.bytesWorld_size]; omega, fun h => by cases h⟩⟩
  have hj : j < s.size := by have := (List.getElem?_eq_some_iff.1 hv).1; rw [vBl, nB_length] at this; exact this
  rw [Nat.zero_add, Lib.bytesWorld_cell w 5 s j hj]
  have hv2 := vB_at (nB s) j (by rw [nB_length]; exact hj)
  rw [Array.getElem?_toList, hv2] at hv
  rw [← hv]
  have hj' : j < s.data.toList.length := by simpa using hj
  have e : gi (nB s) j = ((s.data.toList.getD j 0).toNat : Int) := by
    unfold gi nB
    rw [List.getD_eq_getElem?_getD, List.getD_eq_getElem?_getD, List.getElem?_map, List.getElem?_eq_getElem hj']
    rfl
  rw [e]
end Go.Proofs.YtnpjknnalekdpaaDoor
