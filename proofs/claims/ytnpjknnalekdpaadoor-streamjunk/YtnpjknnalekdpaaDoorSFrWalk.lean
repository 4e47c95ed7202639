import Derived.Test.YtnpjknnalekdpaaDoorTv
import Derived.Test.YtnpjknnalekdpaaDoorTi
namespace Go.Proofs.YtnpjknnalekdpaaDoor
set_option linter.unusedSimpArgs false
set_option linter.unusedVariables false
open Go.RowKit
theorem cells_new {w : World} {A B : Addr} {x y : Value} {o : Obj} (h : w.cell? A = some x ∧ w.cell? B = some y) : (w.alloc o).cell? A = some x ∧ (w.alloc o).cell? B = some y :=
  ⟨by rw [World.cell?_alloc_some _ _ _ (by rw [h.1]; rfl)]; exact h.1, by rw [World.cell?_alloc_some _ _ _ (by rw [h.2]; rfl)]; exact h.2⟩
/-- A box of two cells. -/
def BoxW (w : World) (g : Nat) (t : Int) (x : Value) : Prop := w.heap[g]? = some (.cells #[.int .u8 t, x] 48)
theorem BoxW.range {w : World} {g : Nat} {t : Int} {x : Value} (h : BoxW w g t x) : w.rangeAt g 0 [.int .u8 t, x] := row_range2 h
theorem BoxW.lt {w : World} {g : Nat} {t : Int} {x : Value} (h : BoxW w g t x) : g < w.heap.size := (Array.getElem?_eq_some_iff.1 h).1
theorem BoxW.below {w w' : World} {g : Nat} {t : Int} {x : Value} (h : BoxW w g t x) (b : Below w.heap.size w w') : BoxW w' g t x := (b.block g h.lt).trans h
theorem BoxW.k48 {w w' : World} {g : Nat} {t : Int} {x : Value} (h : BoxW w g t x) (k : ∀ (g : Nat) C m, w.heap[g]? = some (.cells C 48 m) → w'.heap[g]? = w.heap[g]?) : BoxW w' g t x := (k g _ _ h).trans h
theorem BoxW.grown {w w' : World} {g : Nat} {t : Int} {x : Value} {r : Option Nat} (h : BoxW w g t x) (k : w.grownBy w' r) (hr : r ≠ some g) : BoxW w' g t x := (k.block g h.lt (fun e => hr e.symm)).trans h
end Go.Proofs.YtnpjknnalekdpaaDoor
