/-
  No cell of these rows narrows 'for every input' (looked for: loops, veiled, ifaces, maps, wideKeys, modest, calm, conditions, laid).
  DERIVED. THE GIVEN ROWS OF THIS SEAT. 3 by the template 'for every input the law returns true; each argument reads behind the call as it read before'; 0 by the template 'total and deterministic' (their statements: YtalkmokecnnhmaaTotals.lean).
  GIVEN WITH THE SEED: the statements are not yours to turn. If you find one false, say at which input.
  Laid BY PROGRAM, IN A SANDBOX (cutbox-rows.mjs): the forced cells as the released guide's own fill.sh prints them over the translation 8274d8a85a820ab3… (all of the seat's roots in one cut). By AI agents, Wed Nov 11 2026. No macro, syntax, notation, axiom, sorry.
-/
import Derived.Test.YtalkmokecnnhmaaChecked
import GoSem.Claim
import GoSem.ClaimJoined
import GoSem.ClaimMapViews
import Derived.JoinedTies
import Derived.KernelRfl
namespace Go.Proofs.Ytalkmokecnnhmaa
/- THE CELL 'sum', in the pinned program and in every row, IS THE sha256 OF THE DUMP (.gsa) THAT YtalkmokecnnhmaaProg.lean LOADS. Nothing in Lean hashes anything: it is a label: what it is worth is what the hold of that sum in a sandbox is worth. -/
noncomputable def Try.pinned : Pinned := { name := "ytalkmokecnnhmaa", sum := "8274d8a85a820ab3a12594b1bcfc735de656c42308fab09a1ff74ab6c5bc6da7", checked := Try.checked }
namespace Rows
def none {H : Type} : Left H := { results := [], args := [] }

/-- 'reparteelaw20.PendPlays': WHATEVER THE INPUT: true; the input reads as it did. -/
def pendPlaysSpec : ChangeSpec := { name := "pendPlays", fn := fun _ => fun
  | [d1, d2, d3] => { results := [.lit (.bool true)], args := [d1, d2, d3] }
  | _ => none }
def pendPlaysRow : OpenClaim := { program := "ytalkmokecnnhmaa", sum := "8274d8a85a820ab3a12594b1bcfc735de656c42308fab09a1ff74ab6c5bc6da7", func := "repartee/reparteelaw20.PendPlays", spec := "pendPlays", apart := false }
def PendPlaysSaid : Prop := pendPlaysRow.holds Try.pinned (OpenSpec.ofChange pendPlaysSpec)

/-- ITS FALSE NEIGHBOUR: 'it returns false'. Refute it at one input. -/
def pendPlaysWrong : ChangeSpec := { name := "pendPlays", fn := fun _ => fun
  | [d1, d2, d3] => { results := [.lit (.bool false)], args := [d1, d2, d3] }
  | _ => none }
def PendPlaysWrongFalsely : Prop := pendPlaysRow.holds Try.pinned (OpenSpec.ofChange pendPlaysWrong)

/-- 'reparteelaw20.PendOrders': WHATEVER THE INPUT: true; the input reads as it did. -/
def pendOrdersSpec : ChangeSpec := { name := "pendOrders", fn := fun _ => fun
  | [d1, d2, d3] => { results := [.lit (.bool true)], args := [d1, d2, d3] }
  | _ => none }
def pendOrdersRow : OpenClaim := { program := "ytalkmokecnnhmaa", sum := "8274d8a85a820ab3a12594b1bcfc735de656c42308fab09a1ff74ab6c5bc6da7", func := "repartee/reparteelaw20.PendOrders", spec := "pendOrders", apart := false }
def PendOrdersSaid : Prop := pendOrdersRow.holds Try.pinned (OpenSpec.ofChange pendOrdersSpec)

/-- ITS FALSE NEIGHBOUR: 'it returns false'. Refute it at one input. -/
def pendOrdersWrong : ChangeSpec := { name := "pendOrders", fn := fun _ => fun
  | [d1, d2, d3] => { results := [.lit (.bool false)], args := [d1, d2, d3] }
  | _ => none }
def PendOrdersWrongFalsely : Prop := pendOrdersRow.holds Try.pinned (OpenSpec.ofChange pendOrdersWrong)

/-- 'reparteelaw20.PendNil': WHATEVER THE INPUT: true; the input reads as it did. -/
def pendNilSpec : ChangeSpec := { name := "pendNil", fn := fun _ => fun
  | [d1, d2] => { results := [.lit (.bool true)], args := [d1, d2] }
  | _ => none }
def pendNilRow : OpenClaim := { program := "ytalkmokecnnhmaa", sum := "8274d8a85a820ab3a12594b1bcfc735de656c42308fab09a1ff74ab6c5bc6da7", func := "repartee/reparteelaw20.PendNil", spec := "pendNil", apart := false }
def PendNilSaid : Prop := pendNilRow.holds Try.pinned (OpenSpec.ofChange pendNilSpec)

/-- ITS FALSE NEIGHBOUR: 'it returns false'. Refute it at one input. -/
def pendNilWrong : ChangeSpec := { name := "pendNil", fn := fun _ => fun
  | [d1, d2] => { results := [.lit (.bool false)], args := [d1, d2] }
  | _ => none }
def PendNilWrongFalsely : Prop := pendNilRow.holds Try.pinned (OpenSpec.ofChange pendNilWrong)

/- THE SECOND FORM. 'bulk': how many values and letters a reading holds, each counted each time it is reached (what is shared counts as often as it is met; a slice's spare places count too). A statement '..UptoSaid' is the law's where the arguments, and the package variables that the reading takes, are together of bulk at most 1048576: NARROWER than '..Said'. Prove '..Said' where nothing that the law and all that it calls make is longer than what came in: it says more and counts as full. Else prove '..UptoSaid'. A law counts once. -/
mutual
def uptoBulk {H : Type} : DataW H → Nat
  | .lit (.string bytes) => bytes.length + 1
  | .lit _ => 1
  | .nil => 1
  | .ptr d => uptoBulk d + 1
  | .slice elems spare => uptoBulkAll elems + uptoBulkAll spare + 1
  | .agg parts => uptoBulkAll parts + 1
  | .iface _ d => uptoBulk d + 1
  | .map entries => uptoBulkEntries entries + 1
  | .held _ => 1
def uptoBulkAll {H : Type} : List (DataW H) → Nat
  | [] => 0
  | d :: r => uptoBulk d + uptoBulkAll r
def uptoBulkEntries {H : Type} : List (Lit × DataW H) → Nat
  | [] => 0
  | x :: r => uptoBulkEntry x + uptoBulkEntries r
def uptoBulkEntry {H : Type} : Lit × DataW H → Nat
  | (.string bytes, d) => bytes.length + uptoBulk d + 1
  | (_, d) => uptoBulk d + 1
 end
def uptoSmall : (H : Type) → List (DataW H) → Bool := fun _ ds => decide (uptoBulkAll ds ≤ 1048576)
def OpenSpec.upto (s : _root_.Go.ChangeSpec) : _root_.Go.OpenSpec := { _root_.Go.OpenSpec.ofChange s with cond := some uptoSmall }

/-- 'reparteelaw20.PendPlays', WHERE WHAT IT READS IS OF BULK AT MOST 1048576: true; the input reads as it did. -/
def pendPlaysUptoRow : OpenClaim := { program := "ytalkmokecnnhmaa", sum := "8274d8a85a820ab3a12594b1bcfc735de656c42308fab09a1ff74ab6c5bc6da7", func := "repartee/reparteelaw20.PendPlays", spec := "pendPlays", apart := false, narrowed := true }
def PendPlaysUptoSaid : Prop := pendPlaysUptoRow.holds Try.pinned (OpenSpec.upto pendPlaysSpec)

/-- 'reparteelaw20.PendOrders', WHERE WHAT IT READS IS OF BULK AT MOST 1048576: true; the input reads as it did. -/
def pendOrdersUptoRow : OpenClaim := { program := "ytalkmokecnnhmaa", sum := "8274d8a85a820ab3a12594b1bcfc735de656c42308fab09a1ff74ab6c5bc6da7", func := "repartee/reparteelaw20.PendOrders", spec := "pendOrders", apart := false, narrowed := true }
def PendOrdersUptoSaid : Prop := pendOrdersUptoRow.holds Try.pinned (OpenSpec.upto pendOrdersSpec)

/-- 'reparteelaw20.PendNil', WHERE WHAT IT READS IS OF BULK AT MOST 1048576: true; the input reads as it did. -/
def pendNilUptoRow : OpenClaim := { program := "ytalkmokecnnhmaa", sum := "8274d8a85a820ab3a12594b1bcfc735de656c42308fab09a1ff74ab6c5bc6da7", func := "repartee/reparteelaw20.PendNil", spec := "pendNil", apart := false, narrowed := true }
def PendNilUptoSaid : Prop := pendNilUptoRow.holds Try.pinned (OpenSpec.upto pendNilSpec)

end Rows
end Go.Proofs.Ytalkmokecnnhmaa
