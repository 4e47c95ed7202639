import Derived.Test.YtnpjknnalekdpaaBb
import Derived.Test.YtnpjknnalekdpaaFs
import Derived.Lib.SlFresh
namespace Go.Proofs.Ytnpjknnalekdpaa
set_option linter.unusedSimpArgs false
set_option linter.unusedVariables false
open Go.RowKit
/-- Bytes in a row of bytes. -/
def PartT (w : World) (v : Value) (bs : List Int) : Prop := ∃ (av : Option Addr) (b o cp : Nat), v = .slice av bs.length cp ∧ bs.length ≤ cp ∧ cp ≤ 9223372036854775807 ∧ (0 < bs.length → av = some ⟨b, o, none⟩) ∧ w.rangeAt b o (vB bs).toList ∧ b < w.heap.size ∧ (av = none → cp = 0) ∧ (0 < bs.length → ∃ C m, w.heap[b]? = some (.cells C 5 m))
theorem PartT.part {w : World} {v : Value} {bs : List Int} (h : PartT w v bs) : PartAt w v bs := by
  obtain ⟨av, b, o, cp, h1, h2, h3, h4, h5, h6, h7, _⟩ := h
  exact ⟨av, b, o, cp, h1, h2, h3, h4, h5, h6, h7⟩
theorem PartT.below {w w' : World} {v : Value} {bs : List Int} (h : PartT w v bs) (hb : Below w.heap.size w w') : PartT w' v bs := by
  obtain ⟨av, b, o, cp, h1, h2, h3, h4, h5, h6, h7, h8⟩ := h
  exact ⟨av, b, o, cp, h1, h2, h3, h4, range_below h5 hb h6, Nat.lt_of_lt_of_le h6 hb.size, h7, fun q => by rw [hb.block b h6]; exact h8 q⟩
section
variable {ops : Array Oper} {rest : List Oper} {o : Oper} {a : Act} {w : World} {Q : Exit → Act → World → Prop}
end
end Go.Proofs.Ytnpjknnalekdpaa
