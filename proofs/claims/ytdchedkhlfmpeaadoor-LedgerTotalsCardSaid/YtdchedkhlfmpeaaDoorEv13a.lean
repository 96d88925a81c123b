/- Events: the document on lives: what is told so far; the loop's body. -/
import Derived.Test.YtdchedkhlfmpeaaDoorEv13r
import Derived.WalkKit
import Derived.ProofKit
import Derived.Handy
import Derived.WalkLawsBesides
import Derived.WalkSpells
import Derived.Lib.Hide
import Derived.Lib.SliceRun
import Derived.Deep.RegionLaw
import Derived.RegionTactic
import Derived.ChangeAlike
import Derived.WalkSmall
import Derived.Deep.QuietTactic
import Derived.BigQuiet
import Derived.OwnWalk
import Derived.Outline
import Derived.Deep.CutRange
import Derived.Deep.CutBlock
import Derived.LoopTactic
namespace Go.Proofs.YtdchedkhlfmpeaaDoor
open Go.ChangeShapes Go.WideShapes Go.ChangeAt Go.RowKit
set_option linter.unusedSimpArgs false
set_option linter.unusedVariables false

/-- The document's state: o is told so far. -/
def RS (V w : World) (F : Nat) (id : Int) (o : Option (Int × Int × List Ev)) (is : Bool) : Prop := match o with
  | none => is = false ∧ Blk w F [.int .i64 0, .int .i64 0, .int .i64 0, .slice none 0 0, .slice none 0 0, .slice none 0 0, .string ⟨#[]⟩, .string ⟨#[]⟩, .bool false, .int .i64 0] 58 ∧ Below F V w ∧ F ≤ w.heap.size
  | some (sc, fr, T) => is = true ∧ ∃ r1 c1 r2 c2 r3 c3, RO V w F F id sc fr (Pj.rd T) (Pj.tk T) (Pj.eof T) (Pj.ss T) r1 T.length c1 (Pj.ins T) r2 T.length c2 (Pj.was T) r3 (Pj.stE T).length c3 (Pj.sts T)
theorem RS.alloc {V w : World} {F : Nat} {id : Int} {o : Option (Int × Int × List Ev)} {is : Bool} (h : RS V w F id o is) (ob : Obj) : RS V (w.alloc ob) F id o is := by
  cases o with
  | none => exact ⟨h.1, h.2.1.alloc _, h.2.2.1.alloc h.2.2.2 _, by rw [World.size_alloc]; exact Nat.le_succ_of_le h.2.2.2⟩
  | some p =>
    obtain ⟨sc, fr, T⟩ := p
    obtain ⟨h1, r1, c1, r2, c2, r3, c3, h2⟩ := h
    exact ⟨h1, r1, c1, r2, c2, r3, c3, h2.below ((Below.refl _ _).alloc (Nat.le_refl _) _)⟩
theorem RS.bel {V w : World} {F : Nat} {id : Int} {o : Option (Int × Int × List Ev)} {is : Bool} (h : RS V w F id o is) : Below F V w ∧ F ≤ w.heap.size := by
  cases o with
  | none => exact h.2.2
  | some p =>
    obtain ⟨sc, fr, T⟩ := p
    obtain ⟨h1, r1, c1, r2, c2, r3, c3, h2⟩ := h
    exact ⟨h2.be, h2.le⟩
theorem bv_len0 (T : List Ev) (x : Ev) : True := trivial
/-- What Of of the document hands back. -/
def RFP (w w' : World) (id : Int) (o : Option (Int × Int × List Ev)) (r : Ending) : Prop := match o with
  | none => r = .returned (.tuple #[.agg #[.int .i64 0, .int .i64 0, .int .i64 0, .slice none 0 0, .slice none 0 0, .slice none 0 0, .string ⟨#[]⟩, .string ⟨#[]⟩, .bool false, .int .i64 0], .bool false]) ∧ Below w.heap.size w w'
  | some (sc, fr, T) => ∃ r1 c1 r2 c2 r3 c3, r = .returned (.tuple #[.agg #[.int .i64 id, .int .i64 sc, .int .i64 fr, .slice r1 T.length c1, .slice r2 T.length c2, .slice r3 (Pj.stE T).length c3, .string (Pj.rd T), .string (Pj.tk T), .bool (Pj.eof T), .int .i64 (Pj.ss T)], .bool true]) ∧ RM w' w.heap.size r1 T.length c1 4 (Pj.ins T) 90 ∧ RM w' w.heap.size r3 (Pj.stE T).length c3 6 (Pj.sts T) 44 ∧ Below w.heap.size w w'
/-- The first loop of a code. -/
def firstLoop : Code → Option Code
  | .loop c => some c
  | .seq a b => match firstLoop a with
    | some c => some c
    | none => firstLoop b
  | .block _ c => firstLoop c
  | .scope c => firstLoop c
  | .cond _ a b => match firstLoop a with
    | some c => some c
    | none => firstLoop b
  | _ => none
/-- Nothing but the end of the round. -/
def onlyN (QN : Act → World → Prop) : Exit → Act → World → Prop
  | .normal, a, w => QN a w
  | _, _, _ => False
noncomputable def body31 : Code := ((Tryd.f20.body.bind firstLoop).getD .skip)
end Go.Proofs.YtdchedkhlfmpeaaDoor
