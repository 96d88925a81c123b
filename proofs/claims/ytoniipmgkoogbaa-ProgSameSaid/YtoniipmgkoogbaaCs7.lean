/- Contracts of sets of bytes: its text. -/
import Derived.Test.YtoniipmgkoogbaaCs6
namespace Go.Proofs.Ytoniipmgkoogbaa
open Go.ChangeShapes Go.WideShapes Go.ChangeAt Go.RowKit
set_option linter.unusedSimpArgs false
set_option linter.unusedVariables false

end Go.Proofs.Ytoniipmgkoogbaa
