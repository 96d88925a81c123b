/-
  No cell of these rows narrows 'for every input' (looked for: loops, veiled, ifaces, maps, wideKeys, modest, calm, conditions, laid).
  DERIVED. THE GIVEN ROWS OF THIS SEAT. 3 by the template 'for every input the law returns true; each argument reads behind the call as it read before'; 0 by the template 'total and deterministic' (their statements: YteodknfmghnalaaTotals.lean).
  GIVEN WITH THE SEED: the statements are not yours to turn. If you find one false, say at which input.
  Laid BY PROGRAM, IN A SANDBOX (cutbox-rows.mjs): the forced cells as the released guide's own fill.sh prints them over the translation 5a1eb7c21127612e… (all of the seat's roots in one cut). By AI agents, Wed Nov 11 2026. No macro, syntax, notation, axiom, sorry.
-/
import Derived.Test.YteodknfmghnalaaChecked
import GoSem.Claim
import GoSem.ClaimJoined
import GoSem.ClaimMapViews
import Derived.JoinedTies
import Derived.KernelRfl
namespace Go.Proofs.Yteodknfmghnalaa
/- THE CELL 'sum', in the pinned program and in every row, IS THE sha256 OF THE DUMP (.gsa) THAT YteodknfmghnalaaProg.lean LOADS. Nothing in Lean hashes anything: it is a label: what it is worth is what the hold of that sum in a sandbox is worth. -/
noncomputable def Try.pinned : Pinned := { name := "yteodknfmghnalaa", sum := "5a1eb7c21127612e0207df9c9bd56e86544bdda7115703f5d9433e239dda2488", checked := Try.checked }
namespace Rows
def none {H : Type} : Left H := { results := [], args := [] }

/-- 'reparteelaw18.CostPrices': WHATEVER THE INPUT: true; the input reads as it did. -/
def costPricesSpec : ChangeSpec := { name := "costPrices", fn := fun _ => fun
  | [d1, d2] => { results := [.lit (.bool true)], args := [d1, d2] }
  | _ => none }
def costPricesRow : OpenClaim := { program := "yteodknfmghnalaa", sum := "5a1eb7c21127612e0207df9c9bd56e86544bdda7115703f5d9433e239dda2488", func := "repartee/reparteelaw18.CostPrices", spec := "costPrices", apart := false }
def CostPricesSaid : Prop := costPricesRow.holds Try.pinned (OpenSpec.ofChange costPricesSpec)

/-- ITS FALSE NEIGHBOUR: 'it returns false'. Refute it at one input. -/
def costPricesWrong : ChangeSpec := { name := "costPrices", fn := fun _ => fun
  | [d1, d2] => { results := [.lit (.bool false)], args := [d1, d2] }
  | _ => none }
def CostPricesWrongFalsely : Prop := costPricesRow.holds Try.pinned (OpenSpec.ofChange costPricesWrong)

/-- 'reparteelaw18.CostWaits': WHATEVER THE INPUT: true; the input reads as it did. -/
def costWaitsSpec : ChangeSpec := { name := "costWaits", fn := fun _ => fun
  | [d1, d2, d3] => { results := [.lit (.bool true)], args := [d1, d2, d3] }
  | _ => none }
def costWaitsRow : OpenClaim := { program := "yteodknfmghnalaa", sum := "5a1eb7c21127612e0207df9c9bd56e86544bdda7115703f5d9433e239dda2488", func := "repartee/reparteelaw18.CostWaits", spec := "costWaits", apart := false }
def CostWaitsSaid : Prop := costWaitsRow.holds Try.pinned (OpenSpec.ofChange costWaitsSpec)

/-- ITS FALSE NEIGHBOUR: 'it returns false'. Refute it at one input. -/
def costWaitsWrong : ChangeSpec := { name := "costWaits", fn := fun _ => fun
  | [d1, d2, d3] => { results := [.lit (.bool false)], args := [d1, d2, d3] }
  | _ => none }
def CostWaitsWrongFalsely : Prop := costWaitsRow.holds Try.pinned (OpenSpec.ofChange costWaitsWrong)

/-- 'reparteelaw18.CostRises': WHATEVER THE INPUT: true; the input reads as it did. -/
def costRisesSpec : ChangeSpec := { name := "costRises", fn := fun _ => fun
  | [d1, d2, d3] => { results := [.lit (.bool true)], args := [d1, d2, d3] }
  | _ => none }
def costRisesRow : OpenClaim := { program := "yteodknfmghnalaa", sum := "5a1eb7c21127612e0207df9c9bd56e86544bdda7115703f5d9433e239dda2488", func := "repartee/reparteelaw18.CostRises", spec := "costRises", apart := false }
def CostRisesSaid : Prop := costRisesRow.holds Try.pinned (OpenSpec.ofChange costRisesSpec)

/-- ITS FALSE NEIGHBOUR: 'it returns false'. Refute it at one input. -/
def costRisesWrong : ChangeSpec := { name := "costRises", fn := fun _ => fun
  | [d1, d2, d3] => { results := [.lit (.bool false)], args := [d1, d2, d3] }
  | _ => none }
def CostRisesWrongFalsely : Prop := costRisesRow.holds Try.pinned (OpenSpec.ofChange costRisesWrong)

/- THE SECOND FORM. 'bulk': how many values and letters a reading holds, each counted each time it is reached (what is shared counts as often as it is met; a slice's spare places count too). A statement '..UptoSaid' is the law's where the arguments, and the package variables that the reading takes, are together of bulk at most 1048576: NARROWER than '..Said'. Prove '..Said' where nothing that the law and all that it calls make is longer than what came in: it says more and counts as full. Else prove '..UptoSaid'. A law counts once. -/
mutual
def uptoBulk {H : Type} : DataW H → Nat
  | .lit (.string bytes) => bytes.length + 1
  | .lit _ => 1
  | .nil => 1
  | .ptr d => uptoBulk d + 1
  | .slice elems spare => uptoBulkAll elems + uptoBulkAll spare + 1
  | .agg parts => uptoBulkAll parts + 1
  | .iface _ d => uptoBulk d + 1
  | .map entries => uptoBulkEntries entries + 1
  | .held _ => 1
def uptoBulkAll {H : Type} : List (DataW H) → Nat
  | [] => 0
  | d :: r => uptoBulk d + uptoBulkAll r
def uptoBulkEntries {H : Type} : List (Lit × DataW H) → Nat
  | [] => 0
  | x :: r => uptoBulkEntry x + uptoBulkEntries r
def uptoBulkEntry {H : Type} : Lit × DataW H → Nat
  | (.string bytes, d) => bytes.length + uptoBulk d + 1
  | (_, d) => uptoBulk d + 1
 end
def uptoSmall : (H : Type) → List (DataW H) → Bool := fun _ ds => decide (uptoBulkAll ds ≤ 1048576)
def OpenSpec.upto (s : _root_.Go.ChangeSpec) : _root_.Go.OpenSpec := { _root_.Go.OpenSpec.ofChange s with cond := some uptoSmall }

/-- 'reparteelaw18.CostPrices', WHERE WHAT IT READS IS OF BULK AT MOST 1048576: true; the input reads as it did. -/
def costPricesUptoRow : OpenClaim := { program := "yteodknfmghnalaa", sum := "5a1eb7c21127612e0207df9c9bd56e86544bdda7115703f5d9433e239dda2488", func := "repartee/reparteelaw18.CostPrices", spec := "costPrices", apart := false, narrowed := true }
def CostPricesUptoSaid : Prop := costPricesUptoRow.holds Try.pinned (OpenSpec.upto costPricesSpec)

/-- 'reparteelaw18.CostWaits', WHERE WHAT IT READS IS OF BULK AT MOST 1048576: true; the input reads as it did. -/
def costWaitsUptoRow : OpenClaim := { program := "yteodknfmghnalaa", sum := "5a1eb7c21127612e0207df9c9bd56e86544bdda7115703f5d9433e239dda2488", func := "repartee/reparteelaw18.CostWaits", spec := "costWaits", apart := false, narrowed := true }
def CostWaitsUptoSaid : Prop := costWaitsUptoRow.holds Try.pinned (OpenSpec.upto costWaitsSpec)

/-- 'reparteelaw18.CostRises', WHERE WHAT IT READS IS OF BULK AT MOST 1048576: true; the input reads as it did. -/
def costRisesUptoRow : OpenClaim := { program := "yteodknfmghnalaa", sum := "5a1eb7c21127612e0207df9c9bd56e86544bdda7115703f5d9433e239dda2488", func := "repartee/reparteelaw18.CostRises", spec := "costRises", apart := false, narrowed := true }
def CostRisesUptoSaid : Prop := costRisesUptoRow.holds Try.pinned (OpenSpec.upto costRisesSpec)

end Rows
end Go.Proofs.Yteodknfmghnalaa
