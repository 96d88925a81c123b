/- The document's own answers on sets of bytes: what comes of two sets. -/
import Derived.Test.YtkihlnomchhiiaaCsR4
namespace Go.Proofs.Ytkihlnomchhiiaa
open Go.ChangeShapes Go.WideShapes Go.ChangeAt Go.RowKit
set_option linter.unusedSimpArgs false
set_option linter.unusedVariables false

end Go.Proofs.Ytkihlnomchhiiaa
