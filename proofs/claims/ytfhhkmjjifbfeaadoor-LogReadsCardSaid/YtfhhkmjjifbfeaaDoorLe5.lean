/- Ledger: numbers as texts. -/
import Derived.Test.YtfhhkmjjifbfeaaDoorTx6
import Derived.Test.YtfhhkmjjifbfeaaDoorBlk
import Derived.WalkKit
import Derived.ProofKit
import Derived.Handy
import Derived.WalkLawsBesides
import Derived.WalkSpells
import Derived.Lib.Hide
import Derived.Lib.SliceRun
import Derived.Deep.RegionLaw
import Derived.RegionTactic
import Derived.ChangeAlike
import Derived.WalkSmall
import Derived.Deep.QuietTactic
import Derived.BigQuiet
import Derived.OwnWalk
import Derived.Outline
import Derived.Deep.CutRange
import Derived.Deep.CutBlock
import Derived.LoopTactic
namespace Go.Proofs.YtfhhkmjjifbfeaaDoor
open Go.ChangeShapes Go.WideShapes Go.ChangeAt Go.RowKit
set_option linter.unusedSimpArgs false
set_option linter.unusedVariables false

/-- A list of bytes as a text. -/
def Le.t (l : List UInt8) : ByteArray := ⟨l.toArray⟩
theorem Le.t_list (l : List UInt8) : (Le.t l).data.toList = l := by unfold Le.t; simp
theorem Le.t_size (l : List UInt8) : (Le.t l).size = l.length := by unfold Le.t; simp [ByteArray.size]
theorem Le.t_of {X : ByteArray} {l : List UInt8} (h : X.data.toList = l) : X = Le.t l := ByteArray.ext (Array.ext' (by rw [h, Le.t_list]))
/-- The text of a number. -/
def Le.num (n : Int) : ByteArray := Le.t (Lib.itoa n)
def Le.hi (m : Nat) : List UInt8 := if m = 0 then [] else Lib.decDigits m
theorem Le.hi_len (m : Nat) (hm : m ≤ 9223372036854775807) : (Le.hi m).length ≤ 20 := by
  unfold Le.hi
  split
  · simp
  · have := Tx.dec_size m hm; omega
theorem Le.dec_two (m : Nat) (hm : m ≠ 0) : Le.hi (m / 10) ++ Lib.decDigits (m % 10) = Lib.decDigits m := by
  unfold Le.hi
  have h1 : Lib.decDigits (m % 10) = [UInt8.ofNat (48 + m % 10)] := by rw [Lib.decDigits, dif_pos (by omega)]
  by_cases h : m < 10
  · rw [if_pos (by omega), show m % 10 = m by omega]; rfl
  · rw [if_neg (by omega), h1]
    conv => rhs; rw [Lib.decDigits, dif_neg h]
theorem Le.quo_neg (m : Nat) : (-(m : Int)).tdiv 10 = -((m / 10 : Nat) : Int) := by
  rw [Int.neg_tdiv, Int.tdiv_eq_ediv_of_nonneg (by omega)]; omega
theorem Le.rem_neg (m : Nat) : (-(m : Int)).tmod 10 = -((m % 10 : Nat) : Int) := by
  rw [Int.neg_tmod, Int.tmod_eq_emod_of_nonneg (by omega)]; omega
theorem le_itoa (n : Int) (h0 : -9223372036854775808 ≤ n ∧ n ≤ 9223372036854775807) (w : World) (htab : Lib.TabIs Tryd.prog w "internal/strconv.uint64pow10" .u64 Lib.pow10Tab) : Calls Tryd.prog 20 #[.int .i64 n] w fun e w' => e = .returned (.string (Le.num n)) ∧ Below w.heap.size w w' := by
  refine (Tryd.strconv_Itoa n h0.1 h0.2 w htab).mono ?_
  rintro e w' ⟨rfl, k, os, rfl⟩
  exact ⟨rfl, below_grow6 k os⟩
end Go.Proofs.YtfhhkmjjifbfeaaDoor
