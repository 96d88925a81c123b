/- Lex: the words of a line. -/
import Derived.Test.YtopiiehdgknmgaaDoorLx2
import Derived.Test.YtopiiehdgknmgaaDoorLx3
namespace Go.Proofs.YtopiiehdgknmgaaDoor
open Go.ChangeShapes Go.WideShapes Go.ChangeAt Go.RowKit
set_option linter.unusedSimpArgs false
set_option linter.unusedVariables false

/-- Words as cells. -/
def wc (x : List UInt8 × Bool × Nat) : List Value := [.string (mkT x.1), .bool x.2.1, .int .i64 (x.2.2 : Int)]
def wcs (l : List (List UInt8 × Bool × Nat)) : List Value := l.flatMap wc
theorem wcs_snoc (l : List (List UInt8 × Bool × Nat)) (x : List UInt8 × Bool × Nat) : wcs (l ++ [x]) = wcs l ++ wc x := by simp [wcs]
theorem wcs_length (l : List (List UInt8 × Bool × Nat)) : (wcs l).length = l.length * 3 := by
  induction l with
  | nil => rfl
  | cons a r ih => rw [wcs, List.flatMap_cons, List.length_append, ← wcs, ih]; simp [wc]; omega
/-- The words of a line from one place on, those ahead of it being known; where and why it is none. -/
def Lx.wd (t : List UInt8) : Nat → Nat → List (List UInt8 × Bool × Nat) → List (List UInt8 × Bool × Nat) × Nat × Int
  | 0, _, l => (l, 0, 0)
  | f + 1, k, l =>
    if (Lx.read (t.drop k)).2.2.2 ≠ 0 then ([], k + (Lx.read (t.drop k)).2.2.1, (Lx.read (t.drop k)).2.2.2)
    else if k + (Lx.read (t.drop k)).2.2.1 = t.length then (l ++ [((Lx.read (t.drop k)).1, (Lx.read (t.drop k)).2.1, k)], 0, 0)
    else if t[k + (Lx.read (t.drop k)).2.2.1]? ≠ some 32 then ([], k + (Lx.read (t.drop k)).2.2.1, 2)
    else Lx.wd t f (k + (Lx.read (t.drop k)).2.2.1 + 1) (l ++ [((Lx.read (t.drop k)).1, (Lx.read (t.drop k)).2.1, k)])
/-- The words of a line; where and why it is none. -/
def Lx.words (t : List UInt8) : List (List UInt8 × Bool × Nat) × Nat × Int := if t = [] then ([], 0, 0) else Lx.wd t (t.length + 1) 0 []
theorem qrd_ge : ∀ (f : Nat) (l : List UInt8) (n : Nat) (out : List UInt8), n ≤ (Qt.rd f l n out).2.1
  | 0, l, n, out => Nat.le_refl _
  | f + 1, l, n, out => by
    rw [Qt.rd]
    by_cases h : l.head? = some 34
    · rw [if_pos h]; simp
    · rw [if_neg h]
      by_cases h2 : (Qt.one l).2.2 = true
      · rw [if_pos h2]
        have := qrd_ge f (l.drop (Qt.one l).2.1) (n + (Qt.one l).2.1) (out ++ [(Qt.one l).1])
        omega
      · rw [if_neg h2]; simp
theorem lxread_n (l : List UInt8) : (Lx.read l).2.2.1 ≤ l.length ∧ ((Lx.read l).2.2.2 = 0 → 0 < (Lx.read l).2.2.1 ∧ (Lx.read l).2.2.1 ≤ l.length) := by
  unfold Lx.read
  cases l with
  | nil => simp
  | cons c r =>
    by_cases h : c = 34
    · simp only [h, if_true]
      have h1 := (Qt.read_err (34 :: r)).1
      have h2 : 1 ≤ (Qt.read (34 :: r)).2.1 := by
        show 1 ≤ (if (34 : UInt8) = 34 then Qt.rd (r.length + 1) r 1 [] else ([], 0, 2)).2.1
        rw [if_pos rfl]; exact qrd_ge _ _ _ _
      exact ⟨h1, fun _ => ⟨h2, h1⟩⟩
    · simp only [h, if_false]
      have := lxrun_le (c :: r)
      by_cases hz : Lx.run (c :: r) = 0
      · rw [if_pos hz]; simp
      · rw [if_neg hz]; simp at this ⊢; omega
theorem infow : (Tryd.prog.info? 34).map (fun i => (i.zero, i.size, i.bytes)) = some (some (.agg #[.string ({ data := #[] } : ByteArray), .bool false, .int .i64 0]), 3, 32) := by kernel_rfl
theorem inforw : (Tryd.prog.info? 35).map (fun i => (i.zero, i.size, i.bytes)) = some (some (.agg #[.string ({ data := #[] } : ByteArray), .bool false, .int .i64 0]), 3, 32) := by kernel_rfl
end Go.Proofs.YtopiiehdgknmgaaDoor
