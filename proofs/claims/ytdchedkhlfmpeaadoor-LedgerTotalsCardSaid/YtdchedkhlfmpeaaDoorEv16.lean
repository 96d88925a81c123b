/- Events: lists and lives held against themselves; the clocks. -/
import Derived.Test.YtdchedkhlfmpeaaDoorEv14
import Derived.WalkKit
import Derived.ProofKit
import Derived.Handy
import Derived.WalkLawsBesides
import Derived.WalkSpells
import Derived.Lib.Hide
import Derived.Lib.SliceRun
import Derived.Deep.RegionLaw
import Derived.RegionTactic
import Derived.ChangeAlike
import Derived.WalkSmall
import Derived.Deep.QuietTactic
import Derived.BigQuiet
import Derived.OwnWalk
import Derived.Outline
import Derived.Deep.CutRange
import Derived.Deep.CutBlock
import Derived.LoopTactic
namespace Go.Proofs.YtdchedkhlfmpeaaDoor
open Go.ChangeShapes Go.WideShapes Go.ChangeAt Go.RowKit
set_option linter.unusedSimpArgs false
set_option linter.unusedVariables false

/-- The ticks of all rounds. -/
def Ev.clks (L : List Ev) : List Int := (L.filter (fun x => x.k == 1)).map Ev.t
theorem Ev.clks_snoc (L : List Ev) (x : Ev) : Ev.clks (L ++ [x]) = if x.k = 1 then Ev.clks L ++ [x.t] else Ev.clks L := by
  unfold Ev.clks; rw [List.filter_append]
  by_cases h : x.k = 1
  · simp [h]
  · simp [h]
theorem infoI64 : (Tryd.prog.info? 2).map (fun i => (i.zero, i.size, i.bytes)) = some (some (.int .i64 0), 1, 8) := by kernel_rfl
end Go.Proofs.YtdchedkhlfmpeaaDoor
