/- The library's contracts at this program, by the shelf's own command, in plain words. -/
import Derived.Shelf.Lay
import Derived.Shelf.LaySoft

import Derived.Test.YtoniipmgkoogbaaProg
namespace Go.Proofs
open Go.Shelf
shelf_tried
end Go.Proofs
