/- Contracts of sets of bytes: its text. -/
import Derived.Test.YtopiiehdgknmgaaCs6
namespace Go.Proofs.Ytopiiehdgknmgaa
open Go.ChangeShapes Go.WideShapes Go.ChangeAt Go.RowKit
set_option linter.unusedSimpArgs false
set_option linter.unusedVariables false

end Go.Proofs.Ytopiiehdgknmgaa
