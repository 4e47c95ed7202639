import Derived.Test.YtnpjknnalekdpaaFe
namespace Go.Proofs.Ytnpjknnalekdpaa
set_option linter.unusedSimpArgs false
set_option linter.unusedVariables false
open Go.RowKit
/-- The first six bytes; what isn't there is the least that may stand there. -/
def begOf (bs : List Int) : List Int := bs.take 6 ++ ([114, 100, 1, 1, 0, 0] : List Int).drop (bs.take 6).length
def beginsB (bs : List Int) : Bool := decide (gi (begOf bs) 0 = 114 ∧ gi (begOf bs) 1 = 100 ∧ gi (begOf bs) 2 = 1 ∧ gi (begOf bs) 3 ≠ 0 ∧ gi (begOf bs) 4 * 256 + gi (begOf bs) 5 ≤ 1000)
theorem six (l : List Int) (h : l.length = 6) : l = [gi l 0, gi l 1, gi l 2, gi l 3, gi l 4, gi l 5] := by
  match l, h with
  | [a, b, c, d, e, f], _ => rfl
theorem str_neF (a b : List Int) (ha : Bytes a) (hb : Bytes b) (h : a ≠ b) : ((strOfNums a).toList == (strOfNums b).toList) = false := by
  rw [beq_eq_false_iff_ne]
  intro e
  apply h
  rw [Lib.strOfNums_toList, Lib.strOfNums_toList] at e
  unfold Lib.bytesOf at e
  have hl : a.length = b.length := by have := congrArg List.length e; simpa using this
  apply List.ext_getElem hl
  intro i h1 h2
  have e2 := congrArg (fun l => l[i]?) e
  simp [h1, h2] at e2
  have x1 := ha a[i] (List.getElem_mem h1)
  have x2 := hb b[i] (List.getElem_mem h2)
  have e3 := congrArg UInt8.toNat e2
  rw [UInt8.toNat_ofNat', UInt8.toNat_ofNat'] at e3
  omega
section
variable {ops : Array Oper} {rest : List Oper} {o : Oper} {a : Act} {w : World} {Q : Exit → Act → World → Prop}
end
end Go.Proofs.Ytnpjknnalekdpaa
