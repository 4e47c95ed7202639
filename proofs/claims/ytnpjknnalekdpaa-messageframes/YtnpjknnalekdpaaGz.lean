import Derived.Test.YtnpjknnalekdpaaKx
import Derived.Test.YtnpjknnalekdpaaGy
namespace Go.Proofs.Ytnpjknnalekdpaa
set_option linter.unusedSimpArgs false
set_option linter.unusedVariables false
open Go.RowKit
end Go.Proofs.Ytnpjknnalekdpaa
namespace Go.Proofs.Ytnpjknnalekdpaa
set_option linter.unusedSimpArgs false
set_option linter.unusedVariables false
open Go.RowKit
/-- A writer at g, a message's box at gm, and what was there before. -/
structure KW (w : World) (g gm : Nat) (m : Msg) (W : World) (st : Option (List Int)) : Prop where
  st : WSt W g st
  box : BoxM 32 W gm m
  ne : gm ≠ g
  gr : w.grownBy W (some g)
theorem KW.hnd {w W : World} {g gm : Nat} {m : Msg} {st : Option (List Int)} (k : KW w g gm m W st) : Hnd W (.pointer (some ⟨g, 0, none⟩)) st := .inr ⟨g, rfl, k.st⟩
/-- What writeOwn adds. -/
def ownSt (st : Option (List Int)) (m : Msg) : Option (List Int) :=
  if m.kind = 1 then addSt (addSt (addSt (addSt (addSt st (numSt m.base 4)) (truthSt m.quiet)) (truthSt m.ext)) (some m.hash)) (textSt m.s)
  else if m.kind = 2 then (if m.yes = true then addSt (addSt (addSt st (truthSt true)) (some m.vh)) (some m.vr) else addSt (addSt st (truthSt false)) (numSt m.code 1))
  else if m.kind = 3 ∨ m.kind = 6 then addSt st (truthSt m.commit) else st
end Go.Proofs.Ytnpjknnalekdpaa
