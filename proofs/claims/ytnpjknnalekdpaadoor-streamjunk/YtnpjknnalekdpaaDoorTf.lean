import Derived.Test.YtnpjknnalekdpaaDoorTe
namespace Go.Proofs.YtnpjknnalekdpaaDoor
set_option linter.unusedSimpArgs false
set_option linter.unusedVariables false
open Go.RowKit
end Go.Proofs.YtnpjknnalekdpaaDoor
