/-
  No cell of these rows narrows 'for every input' (looked for: loops, veiled, ifaces, maps, wideKeys, modest, calm, conditions, laid).
  DERIVED. THE GIVEN ROWS OF THIS SEAT. 4 by the template 'for every input the law returns true; each argument reads behind the call as it read before'; 0 by the template 'total and deterministic' (their statements: YtgldildepechaaaTotals.lean).
  GIVEN WITH THE SEED: the statements are not yours to turn. If you find one false, say at which input.
  Laid BY PROGRAM, IN A SANDBOX (cutbox-rows.mjs): the forced cells as the released guide's own fill.sh prints them over the translation a7016e07221df2b7… (all of the seat's roots in one cut). By AI agents, Wed Nov 11 2026. No macro, syntax, notation, axiom, sorry.
-/
import Derived.Test.YtgldildepechaaaChecked
import GoSem.Claim
import GoSem.ClaimJoined
import GoSem.ClaimMapViews
import Derived.JoinedTies
import Derived.KernelRfl
namespace Go.Proofs.Ytgldildepechaaa
/- THE CELL 'sum', in the pinned program and in every row, IS THE sha256 OF THE DUMP (.gsa) THAT YtgldildepechaaaProg.lean LOADS. Nothing in Lean hashes anything: it is a label: what it is worth is what the hold of that sum in a sandbox is worth. -/
noncomputable def Try.pinned : Pinned := { name := "ytgldildepechaaa", sum := "a7016e07221df2b7a25f328d423200886a2502817069ae282cf56c8d2f0c0512", checked := Try.checked }
namespace Rows
def none {H : Type} : Left H := { results := [], args := [] }

/-- 'reparteelaw26.PursePlays': WHATEVER THE INPUT: true; the input reads as it did. -/
def pursePlaysSpec : ChangeSpec := { name := "pursePlays", fn := fun _ => fun
  | [d1, d2] => { results := [.lit (.bool true)], args := [d1, d2] }
  | _ => none }
def pursePlaysRow : OpenClaim := { program := "ytgldildepechaaa", sum := "a7016e07221df2b7a25f328d423200886a2502817069ae282cf56c8d2f0c0512", func := "repartee/reparteelaw26.PursePlays", spec := "pursePlays", apart := false }
def PursePlaysSaid : Prop := pursePlaysRow.holds Try.pinned (OpenSpec.ofChange pursePlaysSpec)

/-- ITS FALSE NEIGHBOUR: 'it returns false'. Refute it at one input. -/
def pursePlaysWrong : ChangeSpec := { name := "pursePlays", fn := fun _ => fun
  | [d1, d2] => { results := [.lit (.bool false)], args := [d1, d2] }
  | _ => none }
def PursePlaysWrongFalsely : Prop := pursePlaysRow.holds Try.pinned (OpenSpec.ofChange pursePlaysWrong)

/-- 'reparteelaw26.PurseEnough': WHATEVER THE INPUT: true; the input reads as it did. -/
def purseEnoughSpec : ChangeSpec := { name := "purseEnough", fn := fun _ => fun
  | [d1, d2, d3] => { results := [.lit (.bool true)], args := [d1, d2, d3] }
  | _ => none }
def purseEnoughRow : OpenClaim := { program := "ytgldildepechaaa", sum := "a7016e07221df2b7a25f328d423200886a2502817069ae282cf56c8d2f0c0512", func := "repartee/reparteelaw26.PurseEnough", spec := "purseEnough", apart := false }
def PurseEnoughSaid : Prop := purseEnoughRow.holds Try.pinned (OpenSpec.ofChange purseEnoughSpec)

/-- ITS FALSE NEIGHBOUR: 'it returns false'. Refute it at one input. -/
def purseEnoughWrong : ChangeSpec := { name := "purseEnough", fn := fun _ => fun
  | [d1, d2, d3] => { results := [.lit (.bool false)], args := [d1, d2, d3] }
  | _ => none }
def PurseEnoughWrongFalsely : Prop := purseEnoughRow.holds Try.pinned (OpenSpec.ofChange purseEnoughWrong)

/-- 'reparteelaw26.PurseApart': WHATEVER THE INPUT: true; the input reads as it did. -/
def purseApartSpec : ChangeSpec := { name := "purseApart", fn := fun _ => fun
  | [d1, d2] => { results := [.lit (.bool true)], args := [d1, d2] }
  | _ => none }
def purseApartRow : OpenClaim := { program := "ytgldildepechaaa", sum := "a7016e07221df2b7a25f328d423200886a2502817069ae282cf56c8d2f0c0512", func := "repartee/reparteelaw26.PurseApart", spec := "purseApart", apart := false }
def PurseApartSaid : Prop := purseApartRow.holds Try.pinned (OpenSpec.ofChange purseApartSpec)

/-- ITS FALSE NEIGHBOUR: 'it returns false'. Refute it at one input. -/
def purseApartWrong : ChangeSpec := { name := "purseApart", fn := fun _ => fun
  | [d1, d2] => { results := [.lit (.bool false)], args := [d1, d2] }
  | _ => none }
def PurseApartWrongFalsely : Prop := purseApartRow.holds Try.pinned (OpenSpec.ofChange purseApartWrong)

/-- 'reparteelaw26.PurseNil': WHATEVER THE INPUT: true; the input reads as it did. -/
def purseNilSpec : ChangeSpec := { name := "purseNil", fn := fun _ => fun
  | [d1, d2] => { results := [.lit (.bool true)], args := [d1, d2] }
  | _ => none }
def purseNilRow : OpenClaim := { program := "ytgldildepechaaa", sum := "a7016e07221df2b7a25f328d423200886a2502817069ae282cf56c8d2f0c0512", func := "repartee/reparteelaw26.PurseNil", spec := "purseNil", apart := false }
def PurseNilSaid : Prop := purseNilRow.holds Try.pinned (OpenSpec.ofChange purseNilSpec)

/-- ITS FALSE NEIGHBOUR: 'it returns false'. Refute it at one input. -/
def purseNilWrong : ChangeSpec := { name := "purseNil", fn := fun _ => fun
  | [d1, d2] => { results := [.lit (.bool false)], args := [d1, d2] }
  | _ => none }
def PurseNilWrongFalsely : Prop := purseNilRow.holds Try.pinned (OpenSpec.ofChange purseNilWrong)

/- THE SECOND FORM. 'bulk': how many values and letters a reading holds, each counted each time it is reached (what is shared counts as often as it is met; a slice's spare places count too). A statement '..UptoSaid' is the law's where the arguments, and the package variables that the reading takes, are together of bulk at most 1048576: NARROWER than '..Said'. Prove '..Said' where nothing that the law and all that it calls make is longer than what came in: it says more and counts as full. Else prove '..UptoSaid'. A law counts once. -/
mutual
def uptoBulk {H : Type} : DataW H → Nat
  | .lit (.string bytes) => bytes.length + 1
  | .lit _ => 1
  | .nil => 1
  | .ptr d => uptoBulk d + 1
  | .slice elems spare => uptoBulkAll elems + uptoBulkAll spare + 1
  | .agg parts => uptoBulkAll parts + 1
  | .iface _ d => uptoBulk d + 1
  | .map entries => uptoBulkEntries entries + 1
  | .held _ => 1
def uptoBulkAll {H : Type} : List (DataW H) → Nat
  | [] => 0
  | d :: r => uptoBulk d + uptoBulkAll r
def uptoBulkEntries {H : Type} : List (Lit × DataW H) → Nat
  | [] => 0
  | x :: r => uptoBulkEntry x + uptoBulkEntries r
def uptoBulkEntry {H : Type} : Lit × DataW H → Nat
  | (.string bytes, d) => bytes.length + uptoBulk d + 1
  | (_, d) => uptoBulk d + 1
 end
def uptoSmall : (H : Type) → List (DataW H) → Bool := fun _ ds => decide (uptoBulkAll ds ≤ 1048576)
def OpenSpec.upto (s : _root_.Go.ChangeSpec) : _root_.Go.OpenSpec := { _root_.Go.OpenSpec.ofChange s with cond := some uptoSmall }

/-- 'reparteelaw26.PursePlays', WHERE WHAT IT READS IS OF BULK AT MOST 1048576: true; the input reads as it did. -/
def pursePlaysUptoRow : OpenClaim := { program := "ytgldildepechaaa", sum := "a7016e07221df2b7a25f328d423200886a2502817069ae282cf56c8d2f0c0512", func := "repartee/reparteelaw26.PursePlays", spec := "pursePlays", apart := false, narrowed := true }
def PursePlaysUptoSaid : Prop := pursePlaysUptoRow.holds Try.pinned (OpenSpec.upto pursePlaysSpec)

/-- 'reparteelaw26.PurseEnough', WHERE WHAT IT READS IS OF BULK AT MOST 1048576: true; the input reads as it did. -/
def purseEnoughUptoRow : OpenClaim := { program := "ytgldildepechaaa", sum := "a7016e07221df2b7a25f328d423200886a2502817069ae282cf56c8d2f0c0512", func := "repartee/reparteelaw26.PurseEnough", spec := "purseEnough", apart := false, narrowed := true }
def PurseEnoughUptoSaid : Prop := purseEnoughUptoRow.holds Try.pinned (OpenSpec.upto purseEnoughSpec)

/-- 'reparteelaw26.PurseApart', WHERE WHAT IT READS IS OF BULK AT MOST 1048576: true; the input reads as it did. -/
def purseApartUptoRow : OpenClaim := { program := "ytgldildepechaaa", sum := "a7016e07221df2b7a25f328d423200886a2502817069ae282cf56c8d2f0c0512", func := "repartee/reparteelaw26.PurseApart", spec := "purseApart", apart := false, narrowed := true }
def PurseApartUptoSaid : Prop := purseApartUptoRow.holds Try.pinned (OpenSpec.upto purseApartSpec)

/-- 'reparteelaw26.PurseNil', WHERE WHAT IT READS IS OF BULK AT MOST 1048576: true; the input reads as it did. -/
def purseNilUptoRow : OpenClaim := { program := "ytgldildepechaaa", sum := "a7016e07221df2b7a25f328d423200886a2502817069ae282cf56c8d2f0c0512", func := "repartee/reparteelaw26.PurseNil", spec := "purseNil", apart := false, narrowed := true }
def PurseNilUptoSaid : Prop := purseNilUptoRow.holds Try.pinned (OpenSpec.upto purseNilSpec)

end Rows
end Go.Proofs.Ytgldildepechaaa
