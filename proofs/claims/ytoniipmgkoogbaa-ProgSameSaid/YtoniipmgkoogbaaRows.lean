/-
  No cell of these rows narrows 'for every input' (looked for: loops, veiled, ifaces, maps, wideKeys, modest, calm, conditions, laid).
  DERIVED. THE GIVEN ROWS OF THIS SEAT. 3 by the template 'for every input the law returns true; each argument reads behind the call as it read before'; 0 by the template 'total and deterministic' (their statements: YtoniipmgkoogbaaTotals.lean).
  GIVEN WITH THE SEED: the statements are not yours to turn. If you find one false, say at which input.
  Laid BY PROGRAM, IN A SANDBOX (cutbox-rows.mjs): the forced cells as the released guide's own fill.sh prints them over the translation 50ce9b50404d1db1… (all of the seat's roots in one cut). By AI agents, Wed Nov 11 2026. No macro, syntax, notation, axiom, sorry.
-/
import Derived.Test.YtoniipmgkoogbaaChecked
import GoSem.Claim
import GoSem.ClaimJoined
import GoSem.ClaimMapViews
import Derived.JoinedTies
import Derived.KernelRfl
namespace Go.Proofs.Ytoniipmgkoogbaa
/- THE CELL 'sum', in the pinned program and in every row, IS THE sha256 OF THE DUMP (.gsa) THAT YtoniipmgkoogbaaProg.lean LOADS. Nothing in Lean hashes anything: it is a label: what it is worth is what the hold of that sum in a sandbox is worth. -/
noncomputable def Try.pinned : Pinned := { name := "ytoniipmgkoogbaa", sum := "50ce9b50404d1db1b71f61ced49abc1a9ff65cf00f78cf1f5bf24e7553add83a", checked := Try.checked }
namespace Rows
def none {H : Type} : Left H := { results := [], args := [] }

/-- 'reparteelaw13.ProgLong': WHATEVER THE INPUT: true; the input reads as it did. -/
def progLongSpec : ChangeSpec := { name := "progLong", fn := fun _ => fun
  | [d] => { results := [.lit (.bool true)], args := [d] }
  | _ => none }
def progLongRow : OpenClaim := { program := "ytoniipmgkoogbaa", sum := "50ce9b50404d1db1b71f61ced49abc1a9ff65cf00f78cf1f5bf24e7553add83a", func := "repartee/reparteelaw13.ProgLong", spec := "progLong", apart := false }
def ProgLongSaid : Prop := progLongRow.holds Try.pinned (OpenSpec.ofChange progLongSpec)

/-- ITS FALSE NEIGHBOUR: 'it returns false'. Refute it at one input. -/
def progLongWrong : ChangeSpec := { name := "progLong", fn := fun _ => fun
  | [d] => { results := [.lit (.bool false)], args := [d] }
  | _ => none }
def ProgLongWrongFalsely : Prop := progLongRow.holds Try.pinned (OpenSpec.ofChange progLongWrong)

/-- 'reparteelaw13.ProgSame': WHATEVER THE INPUT: true; the input reads as it did. -/
def progSameSpec : ChangeSpec := { name := "progSame", fn := fun _ => fun
  | [d1, d2, d3] => { results := [.lit (.bool true)], args := [d1, d2, d3] }
  | _ => none }
def progSameRow : OpenClaim := { program := "ytoniipmgkoogbaa", sum := "50ce9b50404d1db1b71f61ced49abc1a9ff65cf00f78cf1f5bf24e7553add83a", func := "repartee/reparteelaw13.ProgSame", spec := "progSame", unfollowed := true, recurses := true, apart := false }
def ProgSameSaid : Prop := progSameRow.holds Try.pinned (OpenSpec.ofChange progSameSpec)

/-- ITS FALSE NEIGHBOUR: 'it returns false'. Refute it at one input. -/
def progSameWrong : ChangeSpec := { name := "progSame", fn := fun _ => fun
  | [d1, d2, d3] => { results := [.lit (.bool false)], args := [d1, d2, d3] }
  | _ => none }
def ProgSameWrongFalsely : Prop := progSameRow.holds Try.pinned (OpenSpec.ofChange progSameWrong)

/-- 'reparteelaw13.ProgFirst': WHATEVER THE INPUT: true; the input reads as it did. -/
def progFirstSpec : ChangeSpec := { name := "progFirst", fn := fun _ => fun
  | [d1, d2] => { results := [.lit (.bool true)], args := [d1, d2] }
  | _ => none }
def progFirstRow : OpenClaim := { program := "ytoniipmgkoogbaa", sum := "50ce9b50404d1db1b71f61ced49abc1a9ff65cf00f78cf1f5bf24e7553add83a", func := "repartee/reparteelaw13.ProgFirst", spec := "progFirst", apart := false }
def ProgFirstSaid : Prop := progFirstRow.holds Try.pinned (OpenSpec.ofChange progFirstSpec)

/-- ITS FALSE NEIGHBOUR: 'it returns false'. Refute it at one input. -/
def progFirstWrong : ChangeSpec := { name := "progFirst", fn := fun _ => fun
  | [d1, d2] => { results := [.lit (.bool false)], args := [d1, d2] }
  | _ => none }
def ProgFirstWrongFalsely : Prop := progFirstRow.holds Try.pinned (OpenSpec.ofChange progFirstWrong)

/- THE SECOND FORM. 'bulk': how many values and letters a reading holds, each counted each time it is reached (what is shared counts as often as it is met; a slice's spare places count too). A statement '..UptoSaid' is the law's where the arguments, and the package variables that the reading takes, are together of bulk at most 1048576: NARROWER than '..Said'. Prove '..Said' where nothing that the law and all that it calls make is longer than what came in: it says more and counts as full. Else prove '..UptoSaid'. A law counts once. -/
mutual
def uptoBulk {H : Type} : DataW H → Nat
  | .lit (.string bytes) => bytes.length + 1
  | .lit _ => 1
  | .nil => 1
  | .ptr d => uptoBulk d + 1
  | .slice elems spare => uptoBulkAll elems + uptoBulkAll spare + 1
  | .agg parts => uptoBulkAll parts + 1
  | .iface _ d => uptoBulk d + 1
  | .map entries => uptoBulkEntries entries + 1
  | .held _ => 1
def uptoBulkAll {H : Type} : List (DataW H) → Nat
  | [] => 0
  | d :: r => uptoBulk d + uptoBulkAll r
def uptoBulkEntries {H : Type} : List (Lit × DataW H) → Nat
  | [] => 0
  | x :: r => uptoBulkEntry x + uptoBulkEntries r
def uptoBulkEntry {H : Type} : Lit × DataW H → Nat
  | (.string bytes, d) => bytes.length + uptoBulk d + 1
  | (_, d) => uptoBulk d + 1
 end
def uptoSmall : (H : Type) → List (DataW H) → Bool := fun _ ds => decide (uptoBulkAll ds ≤ 1048576)
def OpenSpec.upto (s : _root_.Go.ChangeSpec) : _root_.Go.OpenSpec := { _root_.Go.OpenSpec.ofChange s with cond := some uptoSmall }

/-- 'reparteelaw13.ProgLong', WHERE WHAT IT READS IS OF BULK AT MOST 1048576: true; the input reads as it did. -/
def progLongUptoRow : OpenClaim := { program := "ytoniipmgkoogbaa", sum := "50ce9b50404d1db1b71f61ced49abc1a9ff65cf00f78cf1f5bf24e7553add83a", func := "repartee/reparteelaw13.ProgLong", spec := "progLong", apart := false, narrowed := true }
def ProgLongUptoSaid : Prop := progLongUptoRow.holds Try.pinned (OpenSpec.upto progLongSpec)

/-- 'reparteelaw13.ProgSame', WHERE WHAT IT READS IS OF BULK AT MOST 1048576: true; the input reads as it did. -/
def progSameUptoRow : OpenClaim := { program := "ytoniipmgkoogbaa", sum := "50ce9b50404d1db1b71f61ced49abc1a9ff65cf00f78cf1f5bf24e7553add83a", func := "repartee/reparteelaw13.ProgSame", spec := "progSame", unfollowed := true, recurses := true, apart := false, narrowed := true }
def ProgSameUptoSaid : Prop := progSameUptoRow.holds Try.pinned (OpenSpec.upto progSameSpec)

/-- 'reparteelaw13.ProgFirst', WHERE WHAT IT READS IS OF BULK AT MOST 1048576: true; the input reads as it did. -/
def progFirstUptoRow : OpenClaim := { program := "ytoniipmgkoogbaa", sum := "50ce9b50404d1db1b71f61ced49abc1a9ff65cf00f78cf1f5bf24e7553add83a", func := "repartee/reparteelaw13.ProgFirst", spec := "progFirst", apart := false, narrowed := true }
def ProgFirstUptoSaid : Prop := progFirstUptoRow.holds Try.pinned (OpenSpec.upto progFirstSpec)

end Rows
end Go.Proofs.Ytoniipmgkoogbaa
