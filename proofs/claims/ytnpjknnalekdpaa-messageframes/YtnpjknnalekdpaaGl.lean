import Derived.Test.YtnpjknnalekdpaaGj
namespace Go.Proofs.Ytnpjknnalekdpaa
set_option linter.unusedSimpArgs false
set_option linter.unusedVariables false
open Go.RowKit
theorem body_le (m : Msg) (hm : m.Ok) (h : formB m = true) : (bodyB m).length ≤ 1000 ∧ Bytes (bodyB m) := by
  obtain ⟨f1, f2, f3, f4, f5, f6, f7, f8⟩ := form_all h
  have hob := own_bytes m hm h []
  refine ⟨?_, Bytes.cons' (by omega) (Bytes.cons' (by omega) ((numB_bytes _ _).app hob.2.2))⟩
  unfold bodyB; simp only [List.length_append, List.length_cons, List.length_nil, numB_length]; omega
end Go.Proofs.Ytnpjknnalekdpaa
