/- The document's Read: the empty set of flags. -/
import Derived.Test.YtbdjcppkfihonaaGpB
namespace Go.Proofs.Ytbdjcppkfihonaa
open Go.ChangeShapes Go.WideShapes Go.ChangeAt Go.RowKit
set_option linter.unusedSimpArgs false
set_option linter.unusedVariables false

theorem mkN_none : Cs.mkN (fun _ => false) 256 = 0 := Cs.ext_get fun i hi => by rw [Cs.mkN_get _ _ _ hi]; simp
end Go.Proofs.Ytbdjcppkfihonaa
