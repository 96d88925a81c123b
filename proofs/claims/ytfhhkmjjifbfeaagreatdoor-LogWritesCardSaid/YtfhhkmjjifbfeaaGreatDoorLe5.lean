/- Ledger: numbers as texts. -/
import Derived.Test.YtfhhkmjjifbfeaaGreatDoorTx6
import Derived.Test.YtfhhkmjjifbfeaaGreatDoorBlk
import Derived.WalkKit
import Derived.ProofKit
import Derived.Handy
import Derived.WalkLawsBesides
import Derived.WalkSpells
import Derived.Lib.Hide
import Derived.Lib.SliceRun
import Derived.Deep.RegionLaw
import Derived.RegionTactic
import Derived.ChangeAlike
import Derived.WalkSmall
import Derived.Deep.QuietTactic
import Derived.BigQuiet
import Derived.OwnWalk
import Derived.Outline
import Derived.Deep.CutRange
import Derived.Deep.CutBlock
import Derived.LoopTactic
namespace Go.Proofs.YtfhhkmjjifbfeaaGreatDoor
open Go.ChangeShapes Go.WideShapes Go.ChangeAt Go.RowKit
set_option linter.unusedSimpArgs false
set_option linter.unusedVariables false

/-- A list of bytes as a text. -/
def Le.t (l : List UInt8) : ByteArray := ⟨l.toArray⟩
theorem Le.t_list (l : List UInt8) : (Le.t l).data.toList = l := by unfold Le.t; simp
theorem Le.t_size (l : List UInt8) : (Le.t l).size = l.length := by unfold Le.t; simp [ByteArray.size]
theorem Le.t_of {X : ByteArray} {l : List UInt8} (h : X.data.toList = l) : X = Le.t l := ByteArray.ext (Array.ext' (by rw [h, Le.t_list]))
/-- The text of a number. -/
def Le.num (n : Int) : ByteArray := Le.t (Lib.itoa n)
def Le.hi (m : Nat) : List UInt8 := if m = 0 then [] else Lib.decDigits m
theorem Le.hi_len (m : Nat) (hm : m ≤ 9223372036854775807) : (Le.hi m).length ≤ 20 := by
  unfold Le.hi
  split
  · simp
  · have := Tx.dec_size m hm; omega
theorem Le.dec_two (m : Nat) (hm : m ≠ 0) : Le.hi (m / 10) ++ Lib.decDigits (m % 10) = Lib.decDigits m := by
  unfold Le.hi
  have h1 : Lib.decDigits (m % 10) = [UInt8.ofNat (48 + m % 10)] := by rw [Lib.decDigits, dif_pos (by omega)]
  by_cases h : m < 10
  · rw [if_pos (by omega), show m % 10 = m by omega]; rfl
  · rw [if_neg (by omega), h1]
    conv => rhs; rw [Lib.decDigits, dif_neg h]
theorem Le.quo_neg (m : Nat) : (-(m : Int)).tdiv 10 = -((m / 10 : Nat) : Int) := by
  rw [Int.neg_tdiv, Int.tdiv_eq_ediv_of_nonneg (by omega)]; omega
theorem Le.rem_neg (m : Nat) : (-(m : Int)).tmod 10 = -((m % 10 : Nat) : Int) := by
  rw [Int.neg_tmod, Int.tmod_eq_emod_of_nonneg (by omega)]; omega
set_option maxRecDepth 20000 in
set_option maxHeartbeats 16000000 in
theorem rl_high (m : Nat) : ∀ (hm : m ≤ 922337203685477581) (n : Int) (hn : n = -(m : Int)) (X : ByteArray) (hX : X = Le.t (Le.hi m)) (w : World), Calls Tryz.prog 48 #[.int .i64 n] w fun e w' => e = .returned (.string X) ∧ Below w.heap.size w w' := by
  induction m using Nat.strongRecOn with
  | _ m ih =>
    intro hm n hn X hX w
    by_cases h0 : m = 0
    · subst h0
      obtain rfl : n = 0 := by omega
      have HX : Hid (⟨#[]⟩ = X) := Lib.hid (by rw [hX]; rfl)
      clear hX ih hn hm
      try clear h0
      go_enter Tryz.func48, Tryz.ntmps48
      go_wp2_with fail
      go_ret
      exact ⟨by rw [← HX.out]; rfl, Below.refl _ _⟩
    · have nb : (n == 0) = false := by rw [beq_eq_false_iff_ne]; omega
      obtain ⟨nq, hnq⟩ : ∃ q, -((m / 10 : Nat) : Int) = q := ⟨_, rfl⟩
      obtain ⟨r, hr⟩ : ∃ r, m % 10 = r := ⟨_, rfl⟩
      have q1 : n.tdiv 10 = nq := by rw [hn, Le.quo_neg]; exact hnq
      have q2 : IntKind.i64.wrap nq = nq := IntWalk.i64_in _ ⟨by omega, by omega⟩
      have r1 : n.tmod 10 = -(r : Int) := by rw [hn, Le.rem_neg, hr]
      have r2 : IntKind.i64.wrap (-(r : Int)) = -(r : Int) := IntWalk.i64_in _ ⟨by omega, by omega⟩
      have r3 : IntKind.i64.wrap (r : Int) = (r : Int) := IntWalk.i64_in _ ⟨by omega, by omega⟩
      obtain ⟨Y, hY⟩ : ∃ Y, Le.t (Le.hi (m / 10)) = Y := ⟨_, rfl⟩
      obtain ⟨D, hD⟩ : ∃ D, Le.t (Lib.decDigits r) = D := ⟨_, rfl⟩
      have hYs : Y.size ≤ 20 := by rw [← hY, Le.t_size]; exact Le.hi_len _ (by omega)
      have hDs : D.size ≤ 20 := by rw [← hD, Le.t_size]; have := Tx.dec_size r (by omega); omega
      have hcat : ¬ (9223372036854775807 < Y.size + D.size) := by omega
      have HX : Hid (Y ++ D = X) := Lib.hid (by
        rw [hX, ← hY, ← hD]
        refine Le.t_of ?_
        rw [ByteArray.data_append, Array.toList_append, Le.t_list, Le.t_list, ← hr, Le.dec_two m h0]
        unfold Le.hi
        rw [if_neg h0])
      have HI : Hid (∀ W : World, Calls Tryz.prog 48 #[.int .i64 nq] W fun e w' => e = .returned (.string Y) ∧ Below W.heap.size W w') := Lib.hid (fun W => ih (m / 10) (by omega) (by omega) nq hnq.symm Y hY.symm W)
      have HD : Hid (D.data.toList = Lib.decDigits r ∧ r ≤ 9223372036854775807) := Lib.hid ⟨by rw [← hD, Le.t_list], by omega⟩
      clear hX hY hD hnq hr ih h0 hn hYs hDs hm
      go_enter Tryz.func48, Tryz.ntmps48
      go_wp2_with (first
        | (go_at_call 48; (with_reducible refine (HI.out _).mono ?_); rintro e1 W1 ⟨rfl, b1⟩; have HB := Lib.hid b1; clear b1)
        | (go_at_call 47; (with_reducible refine (tr_digits r HD.out.2 D HD.out.1 _).mono ?_); rintro e1 W2 ⟨rfl, b1⟩; have HC := Lib.hid (HB.out.trans (b1.mono HB.out.size)); clear b1))
      go_ret
      exact ⟨by rw [← HX.out]; rfl, HC.out⟩
set_option maxRecDepth 20000 in
set_option maxHeartbeats 16000000 in
theorem rl_num (n : Int) (h0 : -9223372036854775808 ≤ n) (h1 : n ≤ 9223372036854775807) (X : ByteArray) (hX : X = Le.num n) (w : World) : Calls Tryz.prog 30 #[.int .i64 n] w fun e w' => e = .returned (.string X) ∧ Below w.heap.size w w' := by
  by_cases hn : 0 ≤ n
  · obtain ⟨u, rfl⟩ : ∃ u : Nat, n = (u : Int) := ⟨n.toNat, by omega⟩
    have HX : Hid (X.data.toList = Lib.decDigits u) := Lib.hid (by
      rw [hX]; unfold Le.num; rw [Le.t_list]; unfold Lib.itoa; rw [if_neg (by omega)]; rfl)
    have hu : u ≤ 9223372036854775807 := by omega
    clear hX
    go_enter Tryz.func30, Tryz.ntmps30
    go_wp2_with (first
      | (go_at_call 47; (with_reducible refine (tr_digits u hu X HX.out _).mono ?_); rintro e1 W2 ⟨rfl, b1⟩; have HC := Lib.hid b1; clear b1))
    go_ret
    exact ⟨rfl, HC.out⟩
  · obtain ⟨m, hm⟩ : ∃ m : Nat, n = -(m : Int) := ⟨(-n).toNat, by omega⟩
    obtain ⟨nq, hnq⟩ : ∃ q, -((m / 10 : Nat) : Int) = q := ⟨_, rfl⟩
    obtain ⟨r, hr⟩ : ∃ r, m % 10 = r := ⟨_, rfl⟩
    have q1 : n.tdiv 10 = nq := by rw [hm, Le.quo_neg]; exact hnq
    have q2 : IntKind.i64.wrap nq = nq := IntWalk.i64_in _ ⟨by omega, by omega⟩
    have r1 : n.tmod 10 = -(r : Int) := by rw [hm, Le.rem_neg, hr]
    have r2 : IntKind.i64.wrap (-(r : Int)) = -(r : Int) := IntWalk.i64_in _ ⟨by omega, by omega⟩
    have r3 : IntKind.i64.wrap (r : Int) = (r : Int) := IntWalk.i64_in _ ⟨by omega, by omega⟩
    obtain ⟨Y, hY⟩ : ∃ Y, Le.t (Le.hi (m / 10)) = Y := ⟨_, rfl⟩
    obtain ⟨D, hD⟩ : ∃ D, Le.t (Lib.decDigits r) = D := ⟨_, rfl⟩
    have hYs : Y.size ≤ 20 := by rw [← hY, Le.t_size]; exact Le.hi_len _ (by omega)
    have hDs : D.size ≤ 20 := by rw [← hD, Le.t_size]; have := Tx.dec_size r (by omega); omega
    obtain ⟨M, hM⟩ : ∃ M, ({ data := #[45] } : ByteArray) = M := ⟨_, rfl⟩
    have hMs : M.size = 1 := by rw [← hM]; rfl
    obtain ⟨Z, hZ⟩ : ∃ Z, ({ data := #[45] } : ByteArray) ++ Y = Z := ⟨_, rfl⟩
    have hZs : Z.size ≤ 21 := by rw [← hZ, ByteArray.size_append]; show 1 + _ ≤ _; omega
    have hc1 : ¬ (9223372036854775807 < 1 + Y.size) := by omega
    have hc2 : ¬ (9223372036854775807 < Z.size + D.size) := by omega
    have hc3 : ¬ (9223372036854775807 < ({ data := #[45] } : ByteArray).size + Y.size) := by show ¬ (_ < 1 + _); omega
    have HX : Hid (Z ++ D = X) := Lib.hid (by
      rw [hX, ← hZ, ← hY, ← hD]
      refine Le.t_of ?_
      rw [ByteArray.data_append, ByteArray.data_append, Array.toList_append, Array.toList_append, Le.t_list, Le.t_list, List.append_assoc, ← hr, Le.dec_two m (by omega)]
      unfold Lib.itoa
      rw [if_pos (by omega), show n.natAbs = m by omega]; rfl)
    have HI : Hid (∀ W : World, Calls Tryz.prog 48 #[.int .i64 nq] W fun e w' => e = .returned (.string Y) ∧ Below W.heap.size W w') := Lib.hid (fun W => rl_high (m / 10) (by omega) nq hnq.symm Y hY.symm W)
    have HD : Hid (D.data.toList = Lib.decDigits r ∧ r ≤ 9223372036854775807) := Lib.hid ⟨by rw [← hD, Le.t_list], by omega⟩
    clear hX hY hD hnq hr hm hYs hDs hM hMs hZs M
    go_enter Tryz.func30, Tryz.ntmps30
    go_wp2_with (first
      | (go_at_call 48; (with_reducible refine (HI.out _).mono ?_); rintro e1 W1 ⟨rfl, b1⟩; have HB := Lib.hid b1; clear b1)
      | (go_at_call 47; (with_reducible refine (tr_digits r HD.out.2 D HD.out.1 _).mono ?_); rintro e1 W2 ⟨rfl, b1⟩; have HC := Lib.hid (HB.out.trans (b1.mono HB.out.size)); clear b1))
    go_ret
    exact ⟨by rw [← HX.out]; rfl, HC.out⟩
theorem le_itoa (n : Int) (h0 : -9223372036854775808 ≤ n ∧ n ≤ 9223372036854775807) (w : World) (htab : Lib.TabIs Tryz.prog w "internal/strconv.uint64pow10" .u64 Lib.pow10Tab) : Calls Tryz.prog 21 #[.int .i64 n] w fun e w' => e = .returned (.string (Le.num n)) ∧ Below w.heap.size w w' := by
  refine (Tryz.strconv_Itoa n h0.1 h0.2 w htab).mono ?_
  rintro e w' ⟨rfl, k, os, rfl⟩
  exact ⟨rfl, below_grow6 k os⟩
end Go.Proofs.YtfhhkmjjifbfeaaGreatDoor
