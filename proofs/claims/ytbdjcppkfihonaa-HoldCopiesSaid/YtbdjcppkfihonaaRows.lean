/-
  No cell of these rows narrows 'for every input' (looked for: loops, veiled, ifaces, maps, wideKeys, modest, calm, conditions, laid).
  DERIVED. THE GIVEN ROWS OF THIS SEAT. 9 by the template 'for every input the law returns true; each argument reads behind the call as it read before'; 0 by the template 'total and deterministic' (their statements: YtbdjcppkfihonaaTotals.lean).
  GIVEN WITH THE SEED: the statements are not yours to turn. If you find one false, say at which input.
  Laid BY PROGRAM, IN A SANDBOX (cutbox-rows.mjs): the forced cells as the released guide's own fill.sh prints them over the translation a91c655c15742334… (all of the seat's roots in one cut). By AI agents, Wed Nov 11 2026. No macro, syntax, notation, axiom, sorry.
-/
import Derived.Test.YtbdjcppkfihonaaChecked
import GoSem.Claim
import GoSem.ClaimJoined
import GoSem.ClaimMapViews
import Derived.JoinedTies
import Derived.KernelRfl
namespace Go.Proofs.Ytbdjcppkfihonaa
/- THE CELL 'sum', in the pinned program and in every row, IS THE sha256 OF THE DUMP (.gsa) THAT YtbdjcppkfihonaaProg.lean LOADS. Nothing in Lean hashes anything: it is a label: what it is worth is what the hold of that sum in a sandbox is worth. -/
noncomputable def Try.pinned : Pinned := { name := "ytbdjcppkfihonaa", sum := "a91c655c1574233424b3e006ff72d1fe872f9e6f2b183a9471e4465ccecba9fb", checked := Try.checked }
namespace Rows
def none {H : Type} : Left H := { results := [], args := [] }

/-- 'reparteelaw05.HeapPlays': WHATEVER THE INPUT: true; the input reads as it did. -/
def heapPlaysSpec : ChangeSpec := { name := "heapPlays", fn := fun _ => fun
  | [d1, d2, d3] => { results := [.lit (.bool true)], args := [d1, d2, d3] }
  | _ => none }
def heapPlaysRow : OpenClaim := { program := "ytbdjcppkfihonaa", sum := "a91c655c1574233424b3e006ff72d1fe872f9e6f2b183a9471e4465ccecba9fb", func := "repartee/reparteelaw05.HeapPlays", spec := "heapPlays", inPlace := ["slices.overlaps[repartee/api.Entry]"], unfollowed := true, recurses := true, apart := false }
def HeapPlaysSaid : Prop := heapPlaysRow.holds Try.pinned (OpenSpec.ofChange heapPlaysSpec)

/-- ITS FALSE NEIGHBOUR: 'it returns false'. Refute it at one input. -/
def heapPlaysWrong : ChangeSpec := { name := "heapPlays", fn := fun _ => fun
  | [d1, d2, d3] => { results := [.lit (.bool false)], args := [d1, d2, d3] }
  | _ => none }
def HeapPlaysWrongFalsely : Prop := heapPlaysRow.holds Try.pinned (OpenSpec.ofChange heapPlaysWrong)

/-- 'reparteelaw05.HeapSorts': WHATEVER THE INPUT: true; the input reads as it did. -/
def heapSortsSpec : ChangeSpec := { name := "heapSorts", fn := fun _ => fun
  | [d] => { results := [.lit (.bool true)], args := [d] }
  | _ => none }
def heapSortsRow : OpenClaim := { program := "ytbdjcppkfihonaa", sum := "a91c655c1574233424b3e006ff72d1fe872f9e6f2b183a9471e4465ccecba9fb", func := "repartee/reparteelaw05.HeapSorts", spec := "heapSorts", inPlace := ["slices.overlaps[repartee/api.Entry]"], unfollowed := true, recurses := true, apart := false }
def HeapSortsSaid : Prop := heapSortsRow.holds Try.pinned (OpenSpec.ofChange heapSortsSpec)

/-- ITS FALSE NEIGHBOUR: 'it returns false'. Refute it at one input. -/
def heapSortsWrong : ChangeSpec := { name := "heapSorts", fn := fun _ => fun
  | [d] => { results := [.lit (.bool false)], args := [d] }
  | _ => none }
def HeapSortsWrongFalsely : Prop := heapSortsRow.holds Try.pinned (OpenSpec.ofChange heapSortsWrong)

/-- 'reparteelaw05.HeapDues': WHATEVER THE INPUT: true; the input reads as it did. -/
def heapDuesSpec : ChangeSpec := { name := "heapDues", fn := fun _ => fun
  | [d1, d2] => { results := [.lit (.bool true)], args := [d1, d2] }
  | _ => none }
def heapDuesRow : OpenClaim := { program := "ytbdjcppkfihonaa", sum := "a91c655c1574233424b3e006ff72d1fe872f9e6f2b183a9471e4465ccecba9fb", func := "repartee/reparteelaw05.HeapDues", spec := "heapDues", inPlace := ["slices.overlaps[repartee/api.Entry]"], unfollowed := true, recurses := true, apart := false }
def HeapDuesSaid : Prop := heapDuesRow.holds Try.pinned (OpenSpec.ofChange heapDuesSpec)

/-- ITS FALSE NEIGHBOUR: 'it returns false'. Refute it at one input. -/
def heapDuesWrong : ChangeSpec := { name := "heapDues", fn := fun _ => fun
  | [d1, d2] => { results := [.lit (.bool false)], args := [d1, d2] }
  | _ => none }
def HeapDuesWrongFalsely : Prop := heapDuesRow.holds Try.pinned (OpenSpec.ofChange heapDuesWrong)

/-- 'reparteelaw05.HeapNil': WHATEVER THE INPUT: true; the input reads as it did. -/
def heapNilSpec : ChangeSpec := { name := "heapNil", fn := fun _ => fun
  | [d1, d2] => { results := [.lit (.bool true)], args := [d1, d2] }
  | _ => none }
def heapNilRow : OpenClaim := { program := "ytbdjcppkfihonaa", sum := "a91c655c1574233424b3e006ff72d1fe872f9e6f2b183a9471e4465ccecba9fb", func := "repartee/reparteelaw05.HeapNil", spec := "heapNil", inPlace := ["slices.overlaps[repartee/api.Entry]"], unfollowed := true, recurses := true, apart := false }
def HeapNilSaid : Prop := heapNilRow.holds Try.pinned (OpenSpec.ofChange heapNilSpec)

/-- ITS FALSE NEIGHBOUR: 'it returns false'. Refute it at one input. -/
def heapNilWrong : ChangeSpec := { name := "heapNil", fn := fun _ => fun
  | [d1, d2] => { results := [.lit (.bool false)], args := [d1, d2] }
  | _ => none }
def HeapNilWrongFalsely : Prop := heapNilRow.holds Try.pinned (OpenSpec.ofChange heapNilWrong)

/-- 'reparteelaw19.HoldPlays': WHATEVER THE INPUT: true; the input reads as it did. -/
def holdPlaysSpec : ChangeSpec := { name := "holdPlays", fn := fun _ => fun
  | [d] => { results := [.lit (.bool true)], args := [d] }
  | _ => none }
def holdPlaysRow : OpenClaim := { program := "ytbdjcppkfihonaa", sum := "a91c655c1574233424b3e006ff72d1fe872f9e6f2b183a9471e4465ccecba9fb", func := "repartee/reparteelaw19.HoldPlays", spec := "holdPlays", apart := false }
def HoldPlaysSaid : Prop := holdPlaysRow.holds Try.pinned (OpenSpec.ofChange holdPlaysSpec)

/-- ITS FALSE NEIGHBOUR: 'it returns false'. Refute it at one input. -/
def holdPlaysWrong : ChangeSpec := { name := "holdPlays", fn := fun _ => fun
  | [d] => { results := [.lit (.bool false)], args := [d] }
  | _ => none }
def HoldPlaysWrongFalsely : Prop := holdPlaysRow.holds Try.pinned (OpenSpec.ofChange holdPlaysWrong)

/-- 'reparteelaw19.HoldAlike': WHATEVER THE INPUT: true; the input reads as it did. -/
def holdAlikeSpec : ChangeSpec := { name := "holdAlike", fn := fun _ => fun
  | [d1, d2, d3] => { results := [.lit (.bool true)], args := [d1, d2, d3] }
  | _ => none }
def holdAlikeRow : OpenClaim := { program := "ytbdjcppkfihonaa", sum := "a91c655c1574233424b3e006ff72d1fe872f9e6f2b183a9471e4465ccecba9fb", func := "repartee/reparteelaw19.HoldAlike", spec := "holdAlike", apart := false }
def HoldAlikeSaid : Prop := holdAlikeRow.holds Try.pinned (OpenSpec.ofChange holdAlikeSpec)

/-- ITS FALSE NEIGHBOUR: 'it returns false'. Refute it at one input. -/
def holdAlikeWrong : ChangeSpec := { name := "holdAlike", fn := fun _ => fun
  | [d1, d2, d3] => { results := [.lit (.bool false)], args := [d1, d2, d3] }
  | _ => none }
def HoldAlikeWrongFalsely : Prop := holdAlikeRow.holds Try.pinned (OpenSpec.ofChange holdAlikeWrong)

/-- 'reparteelaw19.HoldFinds': WHATEVER THE INPUT: true; the input reads as it did. -/
def holdFindsSpec : ChangeSpec := { name := "holdFinds", fn := fun _ => fun
  | [d1, d2, d3] => { results := [.lit (.bool true)], args := [d1, d2, d3] }
  | _ => none }
def holdFindsRow : OpenClaim := { program := "ytbdjcppkfihonaa", sum := "a91c655c1574233424b3e006ff72d1fe872f9e6f2b183a9471e4465ccecba9fb", func := "repartee/reparteelaw19.HoldFinds", spec := "holdFinds", apart := false }
def HoldFindsSaid : Prop := holdFindsRow.holds Try.pinned (OpenSpec.ofChange holdFindsSpec)

/-- ITS FALSE NEIGHBOUR: 'it returns false'. Refute it at one input. -/
def holdFindsWrong : ChangeSpec := { name := "holdFinds", fn := fun _ => fun
  | [d1, d2, d3] => { results := [.lit (.bool false)], args := [d1, d2, d3] }
  | _ => none }
def HoldFindsWrongFalsely : Prop := holdFindsRow.holds Try.pinned (OpenSpec.ofChange holdFindsWrong)

/-- 'reparteelaw19.HoldCopies': WHATEVER THE INPUT: true; the input reads as it did. -/
def holdCopiesSpec : ChangeSpec := { name := "holdCopies", fn := fun _ => fun
  | [d1, d2, d3] => { results := [.lit (.bool true)], args := [d1, d2, d3] }
  | _ => none }
def holdCopiesRow : OpenClaim := { program := "ytbdjcppkfihonaa", sum := "a91c655c1574233424b3e006ff72d1fe872f9e6f2b183a9471e4465ccecba9fb", func := "repartee/reparteelaw19.HoldCopies", spec := "holdCopies", apart := false }
def HoldCopiesSaid : Prop := holdCopiesRow.holds Try.pinned (OpenSpec.ofChange holdCopiesSpec)

/-- ITS FALSE NEIGHBOUR: 'it returns false'. Refute it at one input. -/
def holdCopiesWrong : ChangeSpec := { name := "holdCopies", fn := fun _ => fun
  | [d1, d2, d3] => { results := [.lit (.bool false)], args := [d1, d2, d3] }
  | _ => none }
def HoldCopiesWrongFalsely : Prop := holdCopiesRow.holds Try.pinned (OpenSpec.ofChange holdCopiesWrong)

/-- 'reparteelaw19.HoldNil': WHATEVER THE INPUT: true; the input reads as it did. -/
def holdNilSpec : ChangeSpec := { name := "holdNil", fn := fun _ => fun
  | [d1, d2] => { results := [.lit (.bool true)], args := [d1, d2] }
  | _ => none }
def holdNilRow : OpenClaim := { program := "ytbdjcppkfihonaa", sum := "a91c655c1574233424b3e006ff72d1fe872f9e6f2b183a9471e4465ccecba9fb", func := "repartee/reparteelaw19.HoldNil", spec := "holdNil", apart := false }
def HoldNilSaid : Prop := holdNilRow.holds Try.pinned (OpenSpec.ofChange holdNilSpec)

/-- ITS FALSE NEIGHBOUR: 'it returns false'. Refute it at one input. -/
def holdNilWrong : ChangeSpec := { name := "holdNil", fn := fun _ => fun
  | [d1, d2] => { results := [.lit (.bool false)], args := [d1, d2] }
  | _ => none }
def HoldNilWrongFalsely : Prop := holdNilRow.holds Try.pinned (OpenSpec.ofChange holdNilWrong)

/- THE SECOND FORM. 'bulk': how many values and letters a reading holds, each counted each time it is reached (what is shared counts as often as it is met; a slice's spare places count too). A statement '..UptoSaid' is the law's where the arguments, and the package variables that the reading takes, are together of bulk at most 1048576: NARROWER than '..Said'. Prove '..Said' where nothing that the law and all that it calls make is longer than what came in: it says more and counts as full. Else prove '..UptoSaid'. A law counts once. -/
mutual
def uptoBulk {H : Type} : DataW H → Nat
  | .lit (.string bytes) => bytes.length + 1
  | .lit _ => 1
  | .nil => 1
  | .ptr d => uptoBulk d + 1
  | .slice elems spare => uptoBulkAll elems + uptoBulkAll spare + 1
  | .agg parts => uptoBulkAll parts + 1
  | .iface _ d => uptoBulk d + 1
  | .map entries => uptoBulkEntries entries + 1
  | .held _ => 1
def uptoBulkAll {H : Type} : List (DataW H) → Nat
  | [] => 0
  | d :: r => uptoBulk d + uptoBulkAll r
def uptoBulkEntries {H : Type} : List (Lit × DataW H) → Nat
  | [] => 0
  | x :: r => uptoBulkEntry x + uptoBulkEntries r
def uptoBulkEntry {H : Type} : Lit × DataW H → Nat
  | (.string bytes, d) => bytes.length + uptoBulk d + 1
  | (_, d) => uptoBulk d + 1
 end
def uptoSmall : (H : Type) → List (DataW H) → Bool := fun _ ds => decide (uptoBulkAll ds ≤ 1048576)
def OpenSpec.upto (s : _root_.Go.ChangeSpec) : _root_.Go.OpenSpec := { _root_.Go.OpenSpec.ofChange s with cond := some uptoSmall }

/-- 'reparteelaw05.HeapPlays', WHERE WHAT IT READS IS OF BULK AT MOST 1048576: true; the input reads as it did. -/
def heapPlaysUptoRow : OpenClaim := { program := "ytbdjcppkfihonaa", sum := "a91c655c1574233424b3e006ff72d1fe872f9e6f2b183a9471e4465ccecba9fb", func := "repartee/reparteelaw05.HeapPlays", spec := "heapPlays", inPlace := ["slices.overlaps[repartee/api.Entry]"], unfollowed := true, recurses := true, apart := false, narrowed := true }
def HeapPlaysUptoSaid : Prop := heapPlaysUptoRow.holds Try.pinned (OpenSpec.upto heapPlaysSpec)

/-- 'reparteelaw05.HeapSorts', WHERE WHAT IT READS IS OF BULK AT MOST 1048576: true; the input reads as it did. -/
def heapSortsUptoRow : OpenClaim := { program := "ytbdjcppkfihonaa", sum := "a91c655c1574233424b3e006ff72d1fe872f9e6f2b183a9471e4465ccecba9fb", func := "repartee/reparteelaw05.HeapSorts", spec := "heapSorts", inPlace := ["slices.overlaps[repartee/api.Entry]"], unfollowed := true, recurses := true, apart := false, narrowed := true }
def HeapSortsUptoSaid : Prop := heapSortsUptoRow.holds Try.pinned (OpenSpec.upto heapSortsSpec)

/-- 'reparteelaw05.HeapDues', WHERE WHAT IT READS IS OF BULK AT MOST 1048576: true; the input reads as it did. -/
def heapDuesUptoRow : OpenClaim := { program := "ytbdjcppkfihonaa", sum := "a91c655c1574233424b3e006ff72d1fe872f9e6f2b183a9471e4465ccecba9fb", func := "repartee/reparteelaw05.HeapDues", spec := "heapDues", inPlace := ["slices.overlaps[repartee/api.Entry]"], unfollowed := true, recurses := true, apart := false, narrowed := true }
def HeapDuesUptoSaid : Prop := heapDuesUptoRow.holds Try.pinned (OpenSpec.upto heapDuesSpec)

/-- 'reparteelaw05.HeapNil', WHERE WHAT IT READS IS OF BULK AT MOST 1048576: true; the input reads as it did. -/
def heapNilUptoRow : OpenClaim := { program := "ytbdjcppkfihonaa", sum := "a91c655c1574233424b3e006ff72d1fe872f9e6f2b183a9471e4465ccecba9fb", func := "repartee/reparteelaw05.HeapNil", spec := "heapNil", inPlace := ["slices.overlaps[repartee/api.Entry]"], unfollowed := true, recurses := true, apart := false, narrowed := true }
def HeapNilUptoSaid : Prop := heapNilUptoRow.holds Try.pinned (OpenSpec.upto heapNilSpec)

/-- 'reparteelaw19.HoldPlays', WHERE WHAT IT READS IS OF BULK AT MOST 1048576: true; the input reads as it did. -/
def holdPlaysUptoRow : OpenClaim := { program := "ytbdjcppkfihonaa", sum := "a91c655c1574233424b3e006ff72d1fe872f9e6f2b183a9471e4465ccecba9fb", func := "repartee/reparteelaw19.HoldPlays", spec := "holdPlays", apart := false, narrowed := true }
def HoldPlaysUptoSaid : Prop := holdPlaysUptoRow.holds Try.pinned (OpenSpec.upto holdPlaysSpec)

/-- 'reparteelaw19.HoldAlike', WHERE WHAT IT READS IS OF BULK AT MOST 1048576: true; the input reads as it did. -/
def holdAlikeUptoRow : OpenClaim := { program := "ytbdjcppkfihonaa", sum := "a91c655c1574233424b3e006ff72d1fe872f9e6f2b183a9471e4465ccecba9fb", func := "repartee/reparteelaw19.HoldAlike", spec := "holdAlike", apart := false, narrowed := true }
def HoldAlikeUptoSaid : Prop := holdAlikeUptoRow.holds Try.pinned (OpenSpec.upto holdAlikeSpec)

/-- 'reparteelaw19.HoldFinds', WHERE WHAT IT READS IS OF BULK AT MOST 1048576: true; the input reads as it did. -/
def holdFindsUptoRow : OpenClaim := { program := "ytbdjcppkfihonaa", sum := "a91c655c1574233424b3e006ff72d1fe872f9e6f2b183a9471e4465ccecba9fb", func := "repartee/reparteelaw19.HoldFinds", spec := "holdFinds", apart := false, narrowed := true }
def HoldFindsUptoSaid : Prop := holdFindsUptoRow.holds Try.pinned (OpenSpec.upto holdFindsSpec)

/-- 'reparteelaw19.HoldCopies', WHERE WHAT IT READS IS OF BULK AT MOST 1048576: true; the input reads as it did. -/
def holdCopiesUptoRow : OpenClaim := { program := "ytbdjcppkfihonaa", sum := "a91c655c1574233424b3e006ff72d1fe872f9e6f2b183a9471e4465ccecba9fb", func := "repartee/reparteelaw19.HoldCopies", spec := "holdCopies", apart := false, narrowed := true }
def HoldCopiesUptoSaid : Prop := holdCopiesUptoRow.holds Try.pinned (OpenSpec.upto holdCopiesSpec)

/-- 'reparteelaw19.HoldNil', WHERE WHAT IT READS IS OF BULK AT MOST 1048576: true; the input reads as it did. -/
def holdNilUptoRow : OpenClaim := { program := "ytbdjcppkfihonaa", sum := "a91c655c1574233424b3e006ff72d1fe872f9e6f2b183a9471e4465ccecba9fb", func := "repartee/reparteelaw19.HoldNil", spec := "holdNil", apart := false, narrowed := true }
def HoldNilUptoSaid : Prop := holdNilUptoRow.holds Try.pinned (OpenSpec.upto holdNilSpec)

end Rows
end Go.Proofs.Ytbdjcppkfihonaa
