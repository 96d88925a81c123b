/- Several texts in one. -/
import Derived.Test.YtdchedkhlfmpeaaDoorTx6
import Derived.Test.YtdchedkhlfmpeaaDoorBlk
import Derived.WalkKit
import Derived.ProofKit
import Derived.Handy
import Derived.WalkLawsBesides
import Derived.WalkSpells
import Derived.Lib.Hide
import Derived.Lib.SliceRun
import Derived.Deep.RegionLaw
import Derived.RegionTactic
import Derived.ChangeAlike
import Derived.WalkSmall
import Derived.Deep.QuietTactic
import Derived.BigQuiet
import Derived.OwnWalk
import Derived.Outline
import Derived.Deep.CutRange
import Derived.Deep.CutBlock
import Derived.LoopTactic
import Derived.Test.YtdchedkhlfmpeaaDoorCoA
/- Ledger: numbers as texts. -/
namespace Go.Proofs.YtdchedkhlfmpeaaDoor
open Go.ChangeShapes Go.WideShapes Go.ChangeAt Go.RowKit
set_option linter.unusedSimpArgs false
set_option linter.unusedVariables false

/-- A list of bytes as a text. -/
def Le.t (l : List UInt8) : ByteArray := ⟨l.toArray⟩
theorem Le.t_list (l : List UInt8) : (Le.t l).data.toList = l := by unfold Le.t; simp
theorem Le.t_size (l : List UInt8) : (Le.t l).size = l.length := by unfold Le.t; simp [ByteArray.size]
theorem Le.t_of {X : ByteArray} {l : List UInt8} (h : X.data.toList = l) : X = Le.t l := ByteArray.ext (Array.ext' (by rw [h, Le.t_list]))
/-- The text of a number. -/
def Le.num (n : Int) : ByteArray := Le.t (Lib.itoa n)
def Le.hi (m : Nat) : List UInt8 := if m = 0 then [] else Lib.decDigits m
theorem Le.hi_len (m : Nat) (hm : m ≤ 9223372036854775807) : (Le.hi m).length ≤ 20 := by
  unfold Le.hi
  split
  · simp
  · have := Tx.dec_size m hm; omega
theorem Le.dec_two (m : Nat) (hm : m ≠ 0) : Le.hi (m / 10) ++ Lib.decDigits (m % 10) = Lib.decDigits m := by
  unfold Le.hi
  have h1 : Lib.decDigits (m % 10) = [UInt8.ofNat (48 + m % 10)] := by rw [Lib.decDigits, dif_pos (by omega)]
  by_cases h : m < 10
  · rw [if_pos (by omega), show m % 10 = m by omega]; rfl
  · rw [if_neg (by omega), h1]
    conv => rhs; rw [Lib.decDigits, dif_neg h]
theorem Le.quo_neg (m : Nat) : (-(m : Int)).tdiv 10 = -((m / 10 : Nat) : Int) := by
  rw [Int.neg_tdiv, Int.tdiv_eq_ediv_of_nonneg (by omega)]; omega
theorem Le.rem_neg (m : Nat) : (-(m : Int)).tmod 10 = -((m % 10 : Nat) : Int) := by
  rw [Int.neg_tmod, Int.tmod_eq_emod_of_nonneg (by omega)]; omega
set_option maxRecDepth 20000 in
set_option maxHeartbeats 16000000 in
theorem rl_high (m : Nat) : ∀ (hm : m ≤ 922337203685477581) (n : Int) (hn : n = -(m : Int)) (X : ByteArray) (hX : X = Le.t (Le.hi m)) (w : World), Calls Tryd.prog 48 #[.int .i64 n] w fun e w' => e = .returned (.string X) ∧ Below w.heap.size w w' := by
  induction m using Nat.strongRecOn with
  | _ m ih =>
    intro hm n hn X hX w
    by_cases h0 : m = 0
    · subst h0
      obtain rfl : n = 0 := by omega
      have HX : Hid (⟨#[]⟩ = X) := Lib.hid (by rw [hX]; rfl)
      clear hX ih hn hm
      try clear h0
      go_enter Tryd.func48, Tryd.ntmps48
      go_wp2_with fail
      go_ret
      exact ⟨by rw [← HX.out]; rfl, Below.refl _ _⟩
    · have nb : (n == 0) = false := by rw [beq_eq_false_iff_ne]; omega
      obtain ⟨nq, hnq⟩ : ∃ q, -((m / 10 : Nat) : Int) = q := ⟨_, rfl⟩
      obtain ⟨r, hr⟩ : ∃ r, m % 10 = r := ⟨_, rfl⟩
      have q1 : n.tdiv 10 = nq := by rw [hn, Le.quo_neg]; exact hnq
      have q2 : IntKind.i64.wrap nq = nq := IntWalk.i64_in _ ⟨by omega, by omega⟩
      have r1 : n.tmod 10 = -(r : Int) := by rw [hn, Le.rem_neg, hr]
      have r2 : IntKind.i64.wrap (-(r : Int)) = -(r : Int) := IntWalk.i64_in _ ⟨by omega, by omega⟩
      have r3 : IntKind.i64.wrap (r : Int) = (r : Int) := IntWalk.i64_in _ ⟨by omega, by omega⟩
      obtain ⟨Y, hY⟩ : ∃ Y, Le.t (Le.hi (m / 10)) = Y := ⟨_, rfl⟩
      obtain ⟨D, hD⟩ : ∃ D, Le.t (Lib.decDigits r) = D := ⟨_, rfl⟩
      have hYs : Y.size ≤ 20 := by rw [← hY, Le.t_size]; exact Le.hi_len _ (by omega)
      have hDs : D.size ≤ 20 := by rw [← hD, Le.t_size]; have := Tx.dec_size r (by omega); omega
      have hcat : ¬ (9223372036854775807 < Y.size + D.size) := by omega
      have HX : Hid (Y ++ D = X) := Lib.hid (by
        rw [hX, ← hY, ← hD]
        refine Le.t_of ?_
        rw [ByteArray.data_append, Array.toList_append, Le.t_list, Le.t_list, ← hr, Le.dec_two m h0]
        unfold Le.hi
        rw [if_neg h0])
      have HI : Hid (∀ W : World, Calls Tryd.prog 48 #[.int .i64 nq] W fun e w' => e = .returned (.string Y) ∧ Below W.heap.size W w') := Lib.hid (fun W => ih (m / 10) (by omega) (by omega) nq hnq.symm Y hY.symm W)
      have HD : Hid (D.data.toList = Lib.decDigits r ∧ r ≤ 9223372036854775807) := Lib.hid ⟨by rw [← hD, Le.t_list], by omega⟩
      clear hX hY hD hnq hr ih h0 hn hYs hDs hm
      go_enter Tryd.func48, Tryd.ntmps48
      go_wp2_with (first
        | (go_at_call 48; (with_reducible refine (HI.out _).mono ?_); rintro e1 W1 ⟨rfl, b1⟩; have HB := Lib.hid b1; clear b1)
        | (go_at_call 47; (with_reducible refine (tr_digits r HD.out.2 D HD.out.1 _).mono ?_); rintro e1 W2 ⟨rfl, b1⟩; have HC := Lib.hid (HB.out.trans (b1.mono HB.out.size)); clear b1))
      go_ret
      exact ⟨by rw [← HX.out]; rfl, HC.out⟩
set_option maxRecDepth 20000 in
set_option maxHeartbeats 16000000 in
theorem rl_num (n : Int) (h0 : -9223372036854775808 ≤ n) (h1 : n ≤ 9223372036854775807) (X : ByteArray) (hX : X = Le.num n) (w : World) : Calls Tryd.prog 29 #[.int .i64 n] w fun e w' => e = .returned (.string X) ∧ Below w.heap.size w w' := by
  by_cases hn : 0 ≤ n
  · obtain ⟨u, rfl⟩ : ∃ u : Nat, n = (u : Int) := ⟨n.toNat, by omega⟩
    have HX : Hid (X.data.toList = Lib.decDigits u) := Lib.hid (by
      rw [hX]; unfold Le.num; rw [Le.t_list]; unfold Lib.itoa; rw [if_neg (by omega)]; rfl)
    have hu : u ≤ 9223372036854775807 := by omega
    clear hX
    go_enter Tryd.func29, Tryd.ntmps29
    go_wp2_with (first
      | (go_at_call 47; (with_reducible refine (tr_digits u hu X HX.out _).mono ?_); rintro e1 W2 ⟨rfl, b1⟩; have HC := Lib.hid b1; clear b1))
    go_ret
    exact ⟨rfl, HC.out⟩
  · obtain ⟨m, hm⟩ : ∃ m : Nat, n = -(m : Int) := ⟨(-n).toNat, by omega⟩
    obtain ⟨nq, hnq⟩ : ∃ q, -((m / 10 : Nat) : Int) = q := ⟨_, rfl⟩
    obtain ⟨r, hr⟩ : ∃ r, m % 10 = r := ⟨_, rfl⟩
    have q1 : n.tdiv 10 = nq := by rw [hm, Le.quo_neg]; exact hnq
    have q2 : IntKind.i64.wrap nq = nq := IntWalk.i64_in _ ⟨by omega, by omega⟩
    have r1 : n.tmod 10 = -(r : Int) := by rw [hm, Le.rem_neg, hr]
    have r2 : IntKind.i64.wrap (-(r : Int)) = -(r : Int) := IntWalk.i64_in _ ⟨by omega, by omega⟩
    have r3 : IntKind.i64.wrap (r : Int) = (r : Int) := IntWalk.i64_in _ ⟨by omega, by omega⟩
    obtain ⟨Y, hY⟩ : ∃ Y, Le.t (Le.hi (m / 10)) = Y := ⟨_, rfl⟩
    obtain ⟨D, hD⟩ : ∃ D, Le.t (Lib.decDigits r) = D := ⟨_, rfl⟩
    have hYs : Y.size ≤ 20 := by rw [← hY, Le.t_size]; exact Le.hi_len _ (by omega)
    have hDs : D.size ≤ 20 := by rw [← hD, Le.t_size]; have := Tx.dec_size r (by omega); omega
    obtain ⟨M, hM⟩ : ∃ M, ({ data := #[45] } : ByteArray) = M := ⟨_, rfl⟩
    have hMs : M.size = 1 := by rw [← hM]; rfl
    obtain ⟨Z, hZ⟩ : ∃ Z, ({ data := #[45] } : ByteArray) ++ Y = Z := ⟨_, rfl⟩
    have hZs : Z.size ≤ 21 := by rw [← hZ, ByteArray.size_append]; show 1 + _ ≤ _; omega
    have hc1 : ¬ (9223372036854775807 < 1 + Y.size) := by omega
    have hc2 : ¬ (9223372036854775807 < Z.size + D.size) := by omega
    have hc3 : ¬ (9223372036854775807 < ({ data := #[45] } : ByteArray).size + Y.size) := by show ¬ (_ < 1 + _); omega
    have HX : Hid (Z ++ D = X) := Lib.hid (by
      rw [hX, ← hZ, ← hY, ← hD]
      refine Le.t_of ?_
      rw [ByteArray.data_append, ByteArray.data_append, Array.toList_append, Array.toList_append, Le.t_list, Le.t_list, List.append_assoc, ← hr, Le.dec_two m (by omega)]
      unfold Lib.itoa
      rw [if_pos (by omega), show n.natAbs = m by omega]; rfl)
    have HI : Hid (∀ W : World, Calls Tryd.prog 48 #[.int .i64 nq] W fun e w' => e = .returned (.string Y) ∧ Below W.heap.size W w') := Lib.hid (fun W => rl_high (m / 10) (by omega) nq hnq.symm Y hY.symm W)
    have HD : Hid (D.data.toList = Lib.decDigits r ∧ r ≤ 9223372036854775807) := Lib.hid ⟨by rw [← hD, Le.t_list], by omega⟩
    clear hX hY hD hnq hr hm hYs hDs hM hMs hZs M
    go_enter Tryd.func29, Tryd.ntmps29
    go_wp2_with (first
      | (go_at_call 48; (with_reducible refine (HI.out _).mono ?_); rintro e1 W1 ⟨rfl, b1⟩; have HB := Lib.hid b1; clear b1)
      | (go_at_call 47; (with_reducible refine (tr_digits r HD.out.2 D HD.out.1 _).mono ?_); rintro e1 W2 ⟨rfl, b1⟩; have HC := Lib.hid (HB.out.trans (b1.mono HB.out.size)); clear b1))
    go_ret
    exact ⟨by rw [← HX.out]; rfl, HC.out⟩
theorem le_itoa (n : Int) (h0 : -9223372036854775808 ≤ n ∧ n ≤ 9223372036854775807) (w : World) (htab : Lib.TabIs Tryd.prog w "internal/strconv.uint64pow10" .u64 Lib.pow10Tab) : Calls Tryd.prog 25 #[.int .i64 n] w fun e w' => e = .returned (.string (Le.num n)) ∧ Below w.heap.size w w' := by
  refine (Tryd.strconv_Itoa n h0.1 h0.2 w htab).mono ?_
  rintro e w' ⟨rfl, k, os, rfl⟩
  exact ⟨rfl, below_grow6 k os⟩
end Go.Proofs.YtdchedkhlfmpeaaDoor
/- Ledger: words of a status. -/
namespace Go.Proofs.YtdchedkhlfmpeaaDoor
open Go.ChangeShapes Go.WideShapes Go.ChangeAt Go.RowKit
set_option linter.unusedSimpArgs false
set_option linter.unusedVariables false

/-- The word of a status. -/
def Le.word (s : Int) : ByteArray := if s = 0 then { data := #[114, 117, 110] } else if s = 1 then { data := #[100, 111, 110, 101] } else if s = 2 then { data := #[102, 97, 105, 108, 101, 100] } else if s = 3 then { data := #[100, 101, 97, 100, 108, 105, 110, 101] } else if s = 4 then { data := #[111, 118, 101, 114, 102, 108, 111, 119] } else if s = 5 then { data := #[100, 114, 97, 105, 110, 101, 100] } else { data := #[] }
/-- The words of the program's table, where they lie. -/
def SI (w : World) : Prop := w.cell? ⟨0, 0, none⟩ = some (.string { data := #[114, 117, 110] }) ∧ w.cell? ⟨0, 1, none⟩ = some (.string { data := #[100, 111, 110, 101] }) ∧ w.cell? ⟨0, 2, none⟩ = some (.string { data := #[102, 97, 105, 108, 101, 100] }) ∧ w.cell? ⟨0, 3, none⟩ = some (.string { data := #[100, 101, 97, 100, 108, 105, 110, 101] }) ∧ w.cell? ⟨0, 4, none⟩ = some (.string { data := #[111, 118, 101, 114, 102, 108, 111, 119] }) ∧ w.cell? ⟨0, 5, none⟩ = some (.string { data := #[100, 114, 97, 105, 110, 101, 100] })
theorem SI.below {w w' : World} (h : SI w) (k : Below w.heap.size w w') : SI w' := by
  have hlt := World.block_lt_of_cell? _ _ h.1
  dsimp only at hlt
  obtain ⟨a, b, c, d, e, f⟩ := h
  exact ⟨(k.cell hlt).trans a, (k.cell hlt).trans b, (k.cell hlt).trans c, (k.cell hlt).trans d, (k.cell hlt).trans e, (k.cell hlt).trans f⟩
theorem le_within (n a b : Int) (r : Bool) (hr : (decide (a ≤ n) && decide (n ≤ b)) = r) (w : World) : Calls Tryd.prog 43 #[.int .i64 n, .int .i64 a, .int .i64 b] w fun e w' => e = .returned (.bool r) ∧ w' = w := by
  by_cases h1 : a ≤ n
  · by_cases h2 : n ≤ b
    · obtain rfl : true = r := by rw [← hr]; simp [h1, h2]
      clear hr
      go_enter Tryd.func43, Tryd.ntmps43
      go_wp2_with fail
      go_ret
      exact ⟨rfl, rfl⟩
    · obtain rfl : false = r := by rw [← hr]; simp [h1, h2]
      clear hr
      go_enter Tryd.func43, Tryd.ntmps43
      go_wp2_with fail
      go_ret
      exact ⟨rfl, rfl⟩
  · obtain rfl : false = r := by rw [← hr]; simp [h1]
    clear hr
    go_enter Tryd.func43, Tryd.ntmps43
    go_wp2_with fail
    go_ret
    exact ⟨rfl, rfl⟩
set_option maxRecDepth 20000 in
set_option maxHeartbeats 16000000 in
theorem le_status (s : Int) (X : ByteArray) (hX : Le.word s = X) (w : World) (hs : SI w) : Calls Tryd.prog 26 #[.int .i64 s] w fun e w' => e = .returned (.string X) ∧ w' = w := by
  obtain ⟨c0, c1, c2, c3, c4, c5⟩ := hs
  by_cases h0 : s = 0
  · subst h0
    have HX : Hid (({ data := #[114, 117, 110] } : ByteArray) = X) := Lib.hid (by rw [← hX]; rfl)
    clear hX
    go_enter Tryd.func26, Tryd.ntmps26
    go_wp2_with (go_at_call 43; refine (le_within 0 0 5 true rfl _).mono ?_; rintro e1 W1 ⟨rfl, rfl⟩)
    go_ret
    exact ⟨by rw [← HX.out]; rfl, rfl⟩
  by_cases h1 : s = 1
  · subst h1
    have HX : Hid (({ data := #[100, 111, 110, 101] } : ByteArray) = X) := Lib.hid (by rw [← hX]; rfl)
    clear hX
    go_enter Tryd.func26, Tryd.ntmps26
    go_wp2_with (go_at_call 43; refine (le_within 1 0 5 true rfl _).mono ?_; rintro e1 W1 ⟨rfl, rfl⟩)
    go_ret
    exact ⟨by rw [← HX.out]; rfl, rfl⟩
  by_cases h2 : s = 2
  · subst h2
    have HX : Hid (({ data := #[102, 97, 105, 108, 101, 100] } : ByteArray) = X) := Lib.hid (by rw [← hX]; rfl)
    clear hX
    go_enter Tryd.func26, Tryd.ntmps26
    go_wp2_with (go_at_call 43; refine (le_within 2 0 5 true rfl _).mono ?_; rintro e1 W1 ⟨rfl, rfl⟩)
    go_ret
    exact ⟨by rw [← HX.out]; rfl, rfl⟩
  by_cases h3 : s = 3
  · subst h3
    have HX : Hid (({ data := #[100, 101, 97, 100, 108, 105, 110, 101] } : ByteArray) = X) := Lib.hid (by rw [← hX]; rfl)
    clear hX
    go_enter Tryd.func26, Tryd.ntmps26
    go_wp2_with (go_at_call 43; refine (le_within 3 0 5 true rfl _).mono ?_; rintro e1 W1 ⟨rfl, rfl⟩)
    go_ret
    exact ⟨by rw [← HX.out]; rfl, rfl⟩
  by_cases h4 : s = 4
  · subst h4
    have HX : Hid (({ data := #[111, 118, 101, 114, 102, 108, 111, 119] } : ByteArray) = X) := Lib.hid (by rw [← hX]; rfl)
    clear hX
    go_enter Tryd.func26, Tryd.ntmps26
    go_wp2_with (go_at_call 43; refine (le_within 4 0 5 true rfl _).mono ?_; rintro e1 W1 ⟨rfl, rfl⟩)
    go_ret
    exact ⟨by rw [← HX.out]; rfl, rfl⟩
  by_cases h5 : s = 5
  · subst h5
    have HX : Hid (({ data := #[100, 114, 97, 105, 110, 101, 100] } : ByteArray) = X) := Lib.hid (by rw [← hX]; rfl)
    clear hX
    go_enter Tryd.func26, Tryd.ntmps26
    go_wp2_with (go_at_call 43; refine (le_within 5 0 5 true rfl _).mono ?_; rintro e1 W1 ⟨rfl, rfl⟩)
    go_ret
    exact ⟨by rw [← HX.out]; rfl, rfl⟩
  have hw : (decide ((0 : Int) ≤ s) && decide (s ≤ 5)) = false := by
    rw [Bool.and_eq_false_iff]
    simp only [decide_eq_false_iff_not]
    omega
  have HX : Hid (({ data := #[] } : ByteArray) = X) := Lib.hid (by rw [← hX]; unfold Le.word; rw [if_neg h0, if_neg h1, if_neg h2, if_neg h3, if_neg h4, if_neg h5])
  have HW := Lib.hid hw
  clear hX h0 h1 h2 h3 h4 h5 hw
  go_enter Tryd.func26, Tryd.ntmps26
  go_wp2_with (go_at_call 43; refine (le_within s 0 5 false HW.out _).mono ?_; rintro e1 W1 ⟨rfl, rfl⟩)
  go_ret
  exact ⟨by rw [← HX.out]; rfl, rfl⟩
set_option maxRecDepth 20000 in
set_option maxHeartbeats 16000000 in
theorem rl_status (s : Int) (X : ByteArray) (hX : Le.word s = X) (w : World) : Calls Tryd.prog 31 #[.int .i64 s] w fun e w' => e = .returned (.string X) ∧ Below w.heap.size w w' := by
  have H0 : Hid (Blk (w.alloc (.cells #[.string { data := #[114, 117, 110] }, .string { data := #[100, 111, 110, 101] }, .string { data := #[102, 97, 105, 108, 101, 100] }, .string { data := #[100, 101, 97, 100, 108, 105, 110, 101] }, .string { data := #[111, 118, 101, 114, 102, 108, 111, 119] }, .string { data := #[100, 114, 97, 105, 110, 101, 100] }] 9)) w.heap.size [.string { data := #[114, 117, 110] }, .string { data := #[100, 111, 110, 101] }, .string { data := #[102, 97, 105, 108, 101, 100] }, .string { data := #[100, 101, 97, 100, 108, 105, 110, 101] }, .string { data := #[111, 118, 101, 114, 102, 108, 111, 119] }, .string { data := #[100, 114, 97, 105, 110, 101, 100] }] 9 ∧ Below w.heap.size w (w.alloc (.cells #[.string { data := #[114, 117, 110] }, .string { data := #[100, 111, 110, 101] }, .string { data := #[102, 97, 105, 108, 101, 100] }, .string { data := #[100, 101, 97, 100, 108, 105, 110, 101] }, .string { data := #[111, 118, 101, 114, 102, 108, 111, 119] }, .string { data := #[100, 114, 97, 105, 110, 101, 100] }] 9))) := Lib.hid ⟨Blk.newA _ _ _, (Below.refl _ _).alloc (Nat.le_refl _) _⟩
  by_cases h0 : s = 0
  · subst h0
    have HX : Hid (({ data := #[114, 117, 110] } : ByteArray) = X) := Lib.hid (by rw [← hX]; rfl)
    clear hX
    go_enter Tryd.func31, Tryd.ntmps31
    go_upto_region 2 with fail
    revert H0
    generalize (w.alloc (.cells #[.string { data := #[114, 117, 110] }, .string { data := #[100, 111, 110, 101] }, .string { data := #[102, 97, 105, 108, 101, 100] }, .string { data := #[100, 101, 97, 100, 108, 105, 110, 101] }, .string { data := #[111, 118, 101, 114, 102, 108, 111, 119] }, .string { data := #[100, 114, 97, 105, 110, 101, 100] }] 9)) = W0
    intro H0
    have c0 := H0.out.1.cell (i := 0) rfl
    go_wp2_with fail
    go_ret
    exact ⟨by rw [← HX.out]; rfl, H0.out.2⟩
  by_cases h1 : s = 1
  · subst h1
    have HX : Hid (({ data := #[100, 111, 110, 101] } : ByteArray) = X) := Lib.hid (by rw [← hX]; rfl)
    clear hX
    go_enter Tryd.func31, Tryd.ntmps31
    go_upto_region 2 with fail
    revert H0
    generalize (w.alloc (.cells #[.string { data := #[114, 117, 110] }, .string { data := #[100, 111, 110, 101] }, .string { data := #[102, 97, 105, 108, 101, 100] }, .string { data := #[100, 101, 97, 100, 108, 105, 110, 101] }, .string { data := #[111, 118, 101, 114, 102, 108, 111, 119] }, .string { data := #[100, 114, 97, 105, 110, 101, 100] }] 9)) = W0
    intro H0
    have c1 := H0.out.1.cell (i := 1) rfl
    go_wp2_with fail
    go_ret
    exact ⟨by rw [← HX.out]; rfl, H0.out.2⟩
  by_cases h2 : s = 2
  · subst h2
    have HX : Hid (({ data := #[102, 97, 105, 108, 101, 100] } : ByteArray) = X) := Lib.hid (by rw [← hX]; rfl)
    clear hX
    go_enter Tryd.func31, Tryd.ntmps31
    go_upto_region 2 with fail
    revert H0
    generalize (w.alloc (.cells #[.string { data := #[114, 117, 110] }, .string { data := #[100, 111, 110, 101] }, .string { data := #[102, 97, 105, 108, 101, 100] }, .string { data := #[100, 101, 97, 100, 108, 105, 110, 101] }, .string { data := #[111, 118, 101, 114, 102, 108, 111, 119] }, .string { data := #[100, 114, 97, 105, 110, 101, 100] }] 9)) = W0
    intro H0
    have c2 := H0.out.1.cell (i := 2) rfl
    go_wp2_with fail
    go_ret
    exact ⟨by rw [← HX.out]; rfl, H0.out.2⟩
  by_cases h3 : s = 3
  · subst h3
    have HX : Hid (({ data := #[100, 101, 97, 100, 108, 105, 110, 101] } : ByteArray) = X) := Lib.hid (by rw [← hX]; rfl)
    clear hX
    go_enter Tryd.func31, Tryd.ntmps31
    go_upto_region 2 with fail
    revert H0
    generalize (w.alloc (.cells #[.string { data := #[114, 117, 110] }, .string { data := #[100, 111, 110, 101] }, .string { data := #[102, 97, 105, 108, 101, 100] }, .string { data := #[100, 101, 97, 100, 108, 105, 110, 101] }, .string { data := #[111, 118, 101, 114, 102, 108, 111, 119] }, .string { data := #[100, 114, 97, 105, 110, 101, 100] }] 9)) = W0
    intro H0
    have c3 := H0.out.1.cell (i := 3) rfl
    go_wp2_with fail
    go_ret
    exact ⟨by rw [← HX.out]; rfl, H0.out.2⟩
  by_cases h4 : s = 4
  · subst h4
    have HX : Hid (({ data := #[111, 118, 101, 114, 102, 108, 111, 119] } : ByteArray) = X) := Lib.hid (by rw [← hX]; rfl)
    clear hX
    go_enter Tryd.func31, Tryd.ntmps31
    go_upto_region 2 with fail
    revert H0
    generalize (w.alloc (.cells #[.string { data := #[114, 117, 110] }, .string { data := #[100, 111, 110, 101] }, .string { data := #[102, 97, 105, 108, 101, 100] }, .string { data := #[100, 101, 97, 100, 108, 105, 110, 101] }, .string { data := #[111, 118, 101, 114, 102, 108, 111, 119] }, .string { data := #[100, 114, 97, 105, 110, 101, 100] }] 9)) = W0
    intro H0
    have c4 := H0.out.1.cell (i := 4) rfl
    go_wp2_with fail
    go_ret
    exact ⟨by rw [← HX.out]; rfl, H0.out.2⟩
  by_cases h5 : s = 5
  · subst h5
    have HX : Hid (({ data := #[100, 114, 97, 105, 110, 101, 100] } : ByteArray) = X) := Lib.hid (by rw [← hX]; rfl)
    clear hX
    go_enter Tryd.func31, Tryd.ntmps31
    go_upto_region 2 with fail
    revert H0
    generalize (w.alloc (.cells #[.string { data := #[114, 117, 110] }, .string { data := #[100, 111, 110, 101] }, .string { data := #[102, 97, 105, 108, 101, 100] }, .string { data := #[100, 101, 97, 100, 108, 105, 110, 101] }, .string { data := #[111, 118, 101, 114, 102, 108, 111, 119] }, .string { data := #[100, 114, 97, 105, 110, 101, 100] }] 9)) = W0
    intro H0
    have c5 := H0.out.1.cell (i := 5) rfl
    go_wp2_with fail
    go_ret
    exact ⟨by rw [← HX.out]; rfl, H0.out.2⟩
  have HX : Hid (({ data := #[] } : ByteArray) = X) := Lib.hid (by rw [← hX]; unfold Le.word; rw [if_neg h0, if_neg h1, if_neg h2, if_neg h3, if_neg h4, if_neg h5])
  by_cases hl : s < 0
  · clear hX h0 h1 h2 h3 h4 h5
    go_enter Tryd.func31, Tryd.ntmps31
    go_upto_region 2 with fail
    revert H0
    generalize (w.alloc (.cells #[.string { data := #[114, 117, 110] }, .string { data := #[100, 111, 110, 101] }, .string { data := #[102, 97, 105, 108, 101, 100] }, .string { data := #[100, 101, 97, 100, 108, 105, 110, 101] }, .string { data := #[111, 118, 101, 114, 102, 108, 111, 119] }, .string { data := #[100, 114, 97, 105, 110, 101, 100] }] 9)) = W0
    intro H0
    go_wp2_with fail
    go_ret
    exact ⟨by rw [← HX.out]; rfl, H0.out.2⟩
  · have hg : (5 : Int) < s := by omega
    clear hX h0 h1 h2 h3 h4 h5
    go_enter Tryd.func31, Tryd.ntmps31
    go_upto_region 2 with fail
    revert H0
    generalize (w.alloc (.cells #[.string { data := #[114, 117, 110] }, .string { data := #[100, 111, 110, 101] }, .string { data := #[102, 97, 105, 108, 101, 100] }, .string { data := #[100, 101, 97, 100, 108, 105, 110, 101] }, .string { data := #[111, 118, 101, 114, 102, 108, 111, 119] }, .string { data := #[100, 114, 97, 105, 110, 101, 100] }] 9)) = W0
    intro H0
    go_wp2_with fail
    go_ret
    exact ⟨by rw [← HX.out]; rfl, H0.out.2⟩
end Go.Proofs.YtdchedkhlfmpeaaDoor
/- Ledger: a line. -/
namespace Go.Proofs.YtdchedkhlfmpeaaDoor
open Go.ChangeShapes Go.WideShapes Go.ChangeAt Go.RowKit
set_option linter.unusedSimpArgs false
set_option linter.unusedVariables false

def Le.tt (t : Int) : List UInt8 := Tx.text (Tk.own t).toNat
def Le.wd (s : Int) : List UInt8 := if (Le.word s).data.toList = [] then [63] else (Le.word s).data.toList
/-- A row's line. -/
def Le.line (i sc fr st lo ju rd tk ss en : Int) : List UInt8 := Lib.join [Lib.itoa i, Lib.itoa sc, Le.tt fr, Lib.itoa st, Lib.itoa lo, Lib.itoa ju, Lib.itoa rd, Lib.itoa tk, Le.wd ss, Le.tt en] [32]
def Le.i64 (n : Int) : Prop := -9223372036854775808 ≤ n ∧ n ≤ 9223372036854775807
theorem Le.itoa_len {n : Int} (h : Le.i64 n) : (Lib.itoa n).length ≤ 30 := by
  unfold Le.i64 at h
  unfold Lib.itoa
  split
  · rw [List.length_cons]
    by_cases h2 : n.natAbs ≤ 9223372036854775807
    · have := Tx.dec_size n.natAbs h2; omega
    · rw [show n.natAbs = 9223372036854775808 by omega, Lib.decDigits, dif_neg (by omega), List.length_append]
      have := Tx.dec_size 922337203685477580 (by omega)
      simp
      omega
  · have := Tx.dec_size n.toNat (by omega); omega
theorem Le.tt_len {t : Int} (h : Le.i64 t) : (Le.tt t).length ≤ 30 := by
  unfold Le.tt Tx.text
  split
  · decide
  · have h1 := Tk.own_le t h.2
    have := Tx.dec_size (Tk.own t).toNat (by omega)
    omega
theorem Le.wd_len (s : Int) : (Le.wd s).length ≤ 30 := by
  unfold Le.wd
  split
  · decide
  · unfold Le.word
    repeat (first | (split; (first | decide | skip)) | decide)
theorem Le.word_le (s : Int) : (Le.word s).size ≤ 30 := by
  unfold Le.word
  repeat (first | (split; (first | decide | skip)) | decide)
theorem le_itoa6 (n : Int) (h : Le.i64 n) (w : World) (htab : Lib.TabIs Tryd.prog w "internal/strconv.uint64pow10" .u64 Lib.pow10Tab) : Calls Tryd.prog 25 #[.int .i64 n] w fun e w' => e = .returned (.string (Le.num n)) ∧ Below w.heap.size w w' := le_itoa n h w htab
/-- What a line works on. -/
structure LG (w W : World) (X : Nat) (cs : List Value) (T : TypeId) : Prop where
  bx : Blk W X cs T
  tab : Lib.TabIs Tryd.prog W "internal/strconv.uint64pow10" .u64 Lib.pow10Tab
  si : SI W
  be : Below w.heap.size w W
  le : w.heap.size ≤ W.heap.size
theorem LG.below {w W W' : World} {X : Nat} {cs : List Value} {T : TypeId} (h : LG w W X cs T) (k : Below W.heap.size W W') : LG w W' X cs T := ⟨h.bx.chg (l := []) (Chg.of_fresh k) (by simp), tab_below k h.tab, h.si.below k, h.be.trans (k.mono h.le), Nat.le_trans h.le k.size⟩
theorem LG.s10 {w W : World} {X : Nat} {i sc fr st lo ju rd tk ss en : Int} {T : TypeId} (h : LG w W X [.int .i64 i, .int .i64 sc, .int .i64 fr, .int .i64 st, .int .i64 lo, .int .i64 ju, .int .i64 rd, .int .i64 tk, .int .i64 ss, .int .i64 en] T) : W.cell? ⟨X, 0, none⟩ = some (.int .i64 i) ∧ W.cell? ⟨X, 1, none⟩ = some (.int .i64 sc) ∧ W.cell? ⟨X, 2, none⟩ = some (.int .i64 fr) ∧ W.cell? ⟨X, 3, none⟩ = some (.int .i64 st) ∧ W.cell? ⟨X, 4, none⟩ = some (.int .i64 lo) ∧ W.cell? ⟨X, 5, none⟩ = some (.int .i64 ju) ∧ W.cell? ⟨X, 6, none⟩ = some (.int .i64 rd) ∧ W.cell? ⟨X, 7, none⟩ = some (.int .i64 tk) ∧ W.cell? ⟨X, 8, none⟩ = some (.int .i64 ss) ∧ W.cell? ⟨X, 9, none⟩ = some (.int .i64 en) := ⟨h.bx.cell (i := 0) rfl, h.bx.cell (i := 1) rfl, h.bx.cell (i := 2) rfl, h.bx.cell (i := 3) rfl, h.bx.cell (i := 4) rfl, h.bx.cell (i := 5) rfl, h.bx.cell (i := 6) rfl, h.bx.cell (i := 7) rfl, h.bx.cell (i := 8) rfl, h.bx.cell (i := 9) rfl⟩
theorem le_join_len : ∀ (L : List (List UInt8)), (∀ l ∈ L, l.length ≤ 30) → (Lib.join L [32]).length ≤ 31 * L.length
  | [], _ => by simp [Lib.join]
  | [x], h => by
    have := h x (by simp)
    simp [Lib.join]
    omega
  | x :: y :: L, h => by
    have h1 := h x (by simp)
    have h2 := le_join_len (y :: L) (fun l hl => h l (List.mem_cons_of_mem _ hl))
    have e : Lib.join (x :: y :: L) [32] = x ++ ([32] ++ Lib.join (y :: L) [32]) := by simp [Lib.join, List.intercalate]
    rw [e, List.length_append, List.length_append]
    simp only [List.length_cons, List.length_nil] at h2 ⊢
    omega
theorem le_join10 (bk : Nat) (l0 l1 l2 l3 l4 l5 l6 l7 l8 l9 : List UInt8) (T : TypeId) (h0 : l0.length ≤ 30) (h1 : l1.length ≤ 30) (h2 : l2.length ≤ 30) (h3 : l3.length ≤ 30) (h4 : l4.length ≤ 30) (h5 : l5.length ≤ 30) (h6 : l6.length ≤ 30) (h7 : l7.length ≤ 30) (h8 : l8.length ≤ 30) (h9 : l9.length ≤ 30) (w : World) (hb : Blk w bk [.string (Le.t l0), .string (Le.t l1), .string (Le.t l2), .string (Le.t l3), .string (Le.t l4), .string (Le.t l5), .string (Le.t l6), .string (Le.t l7), .string (Le.t l8), .string (Le.t l9)] T) :
    Calls Tryd.prog 27 #[.slice (some ⟨bk, 0, none⟩) 10 10, .string { data := #[32] }] w fun e w' => e = .returned (.string (Le.t (Lib.join [l0, l1, l2, l3, l4, l5, l6, l7, l8, l9] [32]))) ∧ Below w.heap.size w w' := by
  have hm : [Le.t l0, Le.t l1, Le.t l2, Le.t l3, Le.t l4, Le.t l5, Le.t l6, Le.t l7, Le.t l8, Le.t l9].map (·.data.toList) = [l0, l1, l2, l3, l4, l5, l6, l7, l8, l9] := by
    simp only [List.map_cons, List.map_nil, Le.t_list]
  have hlen : (Lib.join [l0, l1, l2, l3, l4, l5, l6, l7, l8, l9] [32]).length ≤ 31 * 10 := le_join_len _ (by
    intro l hl
    simp only [List.mem_cons, List.not_mem_nil, or_false] at hl
    rcases hl with rfl | rfl | rfl | rfl | rfl | rfl | rfl | rfl | rfl | rfl <;> assumption)
  have h := Tryd.strings_Join bk 0 10 [Le.t l0, Le.t l1, Le.t l2, Le.t l3, Le.t l4, Le.t l5, Le.t l6, Le.t l7, Le.t l8, Le.t l9] { data := #[32] } w (fun j x hj => by
    rw [Nat.zero_add]
    refine hb.cell ?_
    have : ([Le.t l0, Le.t l1, Le.t l2, Le.t l3, Le.t l4, Le.t l5, Le.t l6, Le.t l7, Le.t l8, Le.t l9].map Value.string)[j]? = some (.string x) := by rw [List.getElem?_map, hj]; rfl
    exact this) hb.lt (by simp) (by simp) (by
      show (Lib.join _ [32]).length ≤ _
      rw [hm]; omega)
  refine h.mono ?_
  rintro e w' ⟨rfl, b⟩
  refine ⟨?_, b⟩
  show Ending.returned (.string ⟨(Lib.join _ [32]).toArray⟩) = _
  rw [hm]; rfl
set_option maxRecDepth 20000 in
set_option maxHeartbeats 16000000 in
theorem le_line (i sc fr st lo ju rd tk ss en : Int) (HI : Le.i64 i) (HSC : Le.i64 sc) (HFR : Le.i64 fr) (HST : Le.i64 st) (HLO : Le.i64 lo) (HJU : Le.i64 ju) (HRD : Le.i64 rd) (HTK : Le.i64 tk) (HEN : Le.i64 en) (w : World) (htab : Lib.TabIs Tryd.prog w "internal/strconv.uint64pow10" .u64 Lib.pow10Tab) (hsi : SI w) :
    Calls Tryd.prog 15 #[.agg #[.int .i64 i, .int .i64 sc, .int .i64 fr, .int .i64 st, .int .i64 lo, .int .i64 ju, .int .i64 rd, .int .i64 tk, .int .i64 ss, .int .i64 en]] w fun e w' => e = .returned (.string (Le.t (Le.line i sc fr st lo ju rd tk ss en))) ∧ Below w.heap.size w w' := by
  obtain ⟨X, hX⟩ : ∃ X, w.heap.size = X := ⟨_, rfl⟩
  have k0 : Below w.heap.size w (w.alloc (.cells #[.int .i64 i, .int .i64 sc, .int .i64 fr, .int .i64 st, .int .i64 lo, .int .i64 ju, .int .i64 rd, .int .i64 tk, .int .i64 ss, .int .i64 en] 31)) := (Below.refl _ _).alloc (Nat.le_refl _) _
  have HS : Hid (LG w (w.alloc (.cells #[.int .i64 i, .int .i64 sc, .int .i64 fr, .int .i64 st, .int .i64 lo, .int .i64 ju, .int .i64 rd, .int .i64 tk, .int .i64 ss, .int .i64 en] 31)) X [.int .i64 i, .int .i64 sc, .int .i64 fr, .int .i64 st, .int .i64 lo, .int .i64 ju, .int .i64 rd, .int .i64 tk, .int .i64 ss, .int .i64 en] 31) := Lib.hid ⟨by rw [← hX]; exact Blk.newA _ _ _, tab_below k0 htab, hsi.below k0, k0, by simp⟩
  have HB := Lib.hid (And.intro HI (And.intro HSC (And.intro HFR (And.intro HST (And.intro HLO (And.intro HJU (And.intro HRD (And.intro HTK HEN))))))))
  have HLN := Lib.hid (And.intro (Le.itoa_len HI) (And.intro (Le.itoa_len HSC) (And.intro (Le.tt_len HFR) (And.intro (Le.itoa_len HST) (And.intro (Le.itoa_len HLO) (And.intro (Le.itoa_len HJU) (And.intro (Le.itoa_len HRD) (And.intro (Le.itoa_len HTK) (Le.tt_len HEN)))))))))
  have HB9 : Hid (fr ≤ 9223372036854775807 ∧ en ≤ 9223372036854775807) := Lib.hid ⟨HFR.2, HEN.2⟩
  obtain ⟨tf, htf⟩ : ∃ n : Nat, Tk.own fr = (n : Int) := ⟨(Tk.own fr).toNat, by have := Tk.own_nn fr; omega⟩
  obtain ⟨te, hte⟩ : ∃ n : Nat, Tk.own en = (n : Int) := ⟨(Tk.own en).toNat, by have := Tk.own_nn en; omega⟩
  have HT : Hid (Tk.own fr = (tf : Int) ∧ (Le.t (Le.tt fr)).data.toList = Tx.text tf ∧ Tk.own en = (te : Int) ∧ (Le.t (Le.tt en)).data.toList = Tx.text te) := Lib.hid ⟨htf, by rw [Le.t_list]; unfold Le.tt; rw [htf]; rfl, hte, by rw [Le.t_list]; unfold Le.tt; rw [hte]; rfl⟩
  obtain ⟨W8, hW8⟩ : ∃ x, Le.word ss = x := ⟨_, rfl⟩
  have HW := Lib.hid hW8
  clear HI HSC HFR HST HLO HJU HRD HTK HEN htf hte htab hsi k0 hW8
  by_cases hw : W8 = { data := #[] }
  · subst hw
    have HWD : Hid (Le.t (Le.wd ss) = { data := #[63] }) := Lib.hid (by unfold Le.wd; rw [HW.out, if_pos rfl]; rfl)
    go_enter Tryd.func15, Tryd.ntmps15
    go_upto_region 1 with fail
    clear hX
    revert HS
    generalize (w.alloc (.cells #[.int .i64 i, .int .i64 sc, .int .i64 fr, .int .i64 st, .int .i64 lo, .int .i64 ju, .int .i64 rd, .int .i64 tk, .int .i64 ss, .int .i64 en] 31)) = W1
    intro HS
    have s8 := HS.out.bx.cell (i := 8) rfl
    go_upto_region 5 with (go_at_call 26; (with_reducible refine (le_status ss _ HW.out _ HS.out.si).mono ?_); rintro e1 W2 ⟨rfl, rfl⟩)
    clear s8
    replace HS := Lib.hid (HS.out.below (Below.refl _ _).drew)
    have s0 := HS.out.s10
    go_region_held3 (fun W => W.cell? ⟨X, 0, none⟩ = some (.int .i64 i) ∧ W.cell? ⟨X, 1, none⟩ = some (.int .i64 sc) ∧ W.cell? ⟨X, 2, none⟩ = some (.int .i64 fr) ∧ W.cell? ⟨X, 3, none⟩ = some (.int .i64 st) ∧ W.cell? ⟨X, 4, none⟩ = some (.int .i64 lo) ∧ W.cell? ⟨X, 5, none⟩ = some (.int .i64 ju) ∧ W.cell? ⟨X, 6, none⟩ = some (.int .i64 rd) ∧ W.cell? ⟨X, 7, none⟩ = some (.int .i64 tk) ∧ W.cell? ⟨X, 8, none⟩ = some (.int .i64 ss) ∧ W.cell? ⟨X, 9, none⟩ = some (.int .i64 en)) (first | with_reducible exact sA | with_reducible exact s0 | go_keep) (first
      | (go_at_call 25; (with_reducible refine (le_itoa6 _ (by first | exact HB.out.1 | exact HB.out.2.1 | exact HB.out.2.2.2.1 | exact HB.out.2.2.2.2.1 | exact HB.out.2.2.2.2.2.1 | exact HB.out.2.2.2.2.2.2.1 | exact HB.out.2.2.2.2.2.2.2.1) _ HS.out.tab).mono ?_); rintro e1 V1 ⟨rfl, q3⟩; have HSn := Lib.hid (HS.out.below q3); clear HS; have HS := HSn; clear HSn q3; have sA := HS.out.s10)
      | (go_at_call 28; (with_reducible refine (tx_text fr HB9.out.1 tf HT.out.1 (Le.t (Le.tt fr)) HT.out.2.1 _ HS.out.tab).mono ?_); rintro e1 V1 ⟨rfl, q3⟩; have HSn := Lib.hid (HS.out.below q3); clear HS; have HS := HSn; clear HSn q3; have sA := HS.out.s10)
      | (go_at_call 28; (with_reducible refine (tx_text en HB9.out.2 te HT.out.2.2.1 (Le.t (Le.tt en)) HT.out.2.2.2 _ HS.out.tab).mono ?_); rintro e1 V1 ⟨rfl, q3⟩; have HSn := Lib.hid (HS.out.below q3); clear HS; have HS := HSn; clear HSn q3; have sA := HS.out.s10)
      | (go_at_call 27; refine (le_join10 _ (Lib.itoa i) (Lib.itoa sc) (Le.tt fr) (Lib.itoa st) (Lib.itoa lo) (Lib.itoa ju) (Lib.itoa rd) (Lib.itoa tk) (Le.wd ss) (Le.tt en) 9 HLN.out.1 HLN.out.2.1 HLN.out.2.2.1 HLN.out.2.2.2.1 HLN.out.2.2.2.2.1 HLN.out.2.2.2.2.2.1 HLN.out.2.2.2.2.2.2.1 HLN.out.2.2.2.2.2.2.2.1 (Le.wd_len ss) HLN.out.2.2.2.2.2.2.2.2 _ (by rw [HWD.out]; exact Blk.newA _ _ _)).mono ?_; rintro e1 V2 ⟨rfl, q3⟩; have HSn := Lib.hid ((HS.out.below ((Below.refl _ _).alloc (Nat.le_refl _) _)).below q3); clear HS; have HS := HSn; clear HSn q3; have sA := HS.out.s10))
    all_goals
      go_wp2_with fail
      go_ret
      exact ⟨rfl, HS.out.be⟩
  · have HWD : Hid (Le.t (Le.wd ss) = W8) := Lib.hid (by
      unfold Le.wd
      rw [HW.out, if_neg (fun e => hw (ByteArray.ext (Array.ext' e)))]
      exact (Le.t_of rfl).symm)
    have hw2 : W8.toList.isEmpty = false := by
      rw [Lib.toList_data]
      cases h : W8.data.toList with
      | nil => exact absurd (ByteArray.ext (Array.ext' h)) hw
      | cons a l => rfl
    clear hw
    go_enter Tryd.func15, Tryd.ntmps15
    go_upto_region 1 with fail
    clear hX
    revert HS
    generalize (w.alloc (.cells #[.int .i64 i, .int .i64 sc, .int .i64 fr, .int .i64 st, .int .i64 lo, .int .i64 ju, .int .i64 rd, .int .i64 tk, .int .i64 ss, .int .i64 en] 31)) = W1
    intro HS
    have s8 := HS.out.bx.cell (i := 8) rfl
    go_upto_region 5 with (go_at_call 26; (with_reducible refine (le_status ss _ HW.out _ HS.out.si).mono ?_); rintro e1 W2 ⟨rfl, rfl⟩)
    clear s8
    replace HS := Lib.hid (HS.out.below (Below.refl _ _).drew)
    have s0 := HS.out.s10
    go_region_held3 (fun W => W.cell? ⟨X, 0, none⟩ = some (.int .i64 i) ∧ W.cell? ⟨X, 1, none⟩ = some (.int .i64 sc) ∧ W.cell? ⟨X, 2, none⟩ = some (.int .i64 fr) ∧ W.cell? ⟨X, 3, none⟩ = some (.int .i64 st) ∧ W.cell? ⟨X, 4, none⟩ = some (.int .i64 lo) ∧ W.cell? ⟨X, 5, none⟩ = some (.int .i64 ju) ∧ W.cell? ⟨X, 6, none⟩ = some (.int .i64 rd) ∧ W.cell? ⟨X, 7, none⟩ = some (.int .i64 tk) ∧ W.cell? ⟨X, 8, none⟩ = some (.int .i64 ss) ∧ W.cell? ⟨X, 9, none⟩ = some (.int .i64 en)) (first | with_reducible exact sA | with_reducible exact s0 | go_keep) (first
      | (go_at_call 25; (with_reducible refine (le_itoa6 _ (by first | exact HB.out.1 | exact HB.out.2.1 | exact HB.out.2.2.2.1 | exact HB.out.2.2.2.2.1 | exact HB.out.2.2.2.2.2.1 | exact HB.out.2.2.2.2.2.2.1 | exact HB.out.2.2.2.2.2.2.2.1) _ HS.out.tab).mono ?_); rintro e1 V1 ⟨rfl, q3⟩; have HSn := Lib.hid (HS.out.below q3); clear HS; have HS := HSn; clear HSn q3; have sA := HS.out.s10)
      | (go_at_call 28; (with_reducible refine (tx_text fr HB9.out.1 tf HT.out.1 (Le.t (Le.tt fr)) HT.out.2.1 _ HS.out.tab).mono ?_); rintro e1 V1 ⟨rfl, q3⟩; have HSn := Lib.hid (HS.out.below q3); clear HS; have HS := HSn; clear HSn q3; have sA := HS.out.s10)
      | (go_at_call 28; (with_reducible refine (tx_text en HB9.out.2 te HT.out.2.2.1 (Le.t (Le.tt en)) HT.out.2.2.2 _ HS.out.tab).mono ?_); rintro e1 V1 ⟨rfl, q3⟩; have HSn := Lib.hid (HS.out.below q3); clear HS; have HS := HSn; clear HSn q3; have sA := HS.out.s10)
      | (go_at_call 27; refine (le_join10 _ (Lib.itoa i) (Lib.itoa sc) (Le.tt fr) (Lib.itoa st) (Lib.itoa lo) (Lib.itoa ju) (Lib.itoa rd) (Lib.itoa tk) (Le.wd ss) (Le.tt en) 9 HLN.out.1 HLN.out.2.1 HLN.out.2.2.1 HLN.out.2.2.2.1 HLN.out.2.2.2.2.1 HLN.out.2.2.2.2.2.1 HLN.out.2.2.2.2.2.2.1 HLN.out.2.2.2.2.2.2.2.1 (Le.wd_len ss) HLN.out.2.2.2.2.2.2.2.2 _ (by rw [HWD.out]; exact Blk.newA _ _ _)).mono ?_; rintro e1 V2 ⟨rfl, q3⟩; have HSn := Lib.hid ((HS.out.below ((Below.refl _ _).alloc (Nat.le_refl _) _)).below q3); clear HS; have HS := HSn; clear HSn q3; have sA := HS.out.s10))
    all_goals
      go_wp2_with fail
      go_ret
      exact ⟨rfl, HS.out.be⟩
end Go.Proofs.YtdchedkhlfmpeaaDoor
/- Ledger: the document's line. -/
namespace Go.Proofs.YtdchedkhlfmpeaaDoor
open Go.ChangeShapes Go.WideShapes Go.ChangeAt Go.RowKit
set_option linter.unusedSimpArgs false
set_option linter.unusedVariables false

/-- What a line's walk keeps. -/
structure LR (w W : World) (X : Nat) (cs : List Value) (T : TypeId) : Prop where
  bx : Blk W X cs T
  be : Below w.heap.size w W
  le : w.heap.size ≤ W.heap.size
theorem LR.below {w W W' : World} {X : Nat} {cs : List Value} {T : TypeId} (h : LR w W X cs T) (k : Below W.heap.size W W') : LR w W' X cs T := ⟨h.bx.chg (l := []) (Chg.of_fresh k) (by simp), h.be.trans (k.mono h.le), Nat.le_trans h.le k.size⟩
theorem LR.s10 {w W : World} {X : Nat} {i sc fr st lo ju rd tk ss en : Int} {T : TypeId} (h : LR w W X [.int .i64 i, .int .i64 sc, .int .i64 fr, .int .i64 st, .int .i64 lo, .int .i64 ju, .int .i64 rd, .int .i64 tk, .int .i64 ss, .int .i64 en] T) : W.cell? ⟨X, 0, none⟩ = some (.int .i64 i) ∧ W.cell? ⟨X, 1, none⟩ = some (.int .i64 sc) ∧ W.cell? ⟨X, 2, none⟩ = some (.int .i64 fr) ∧ W.cell? ⟨X, 3, none⟩ = some (.int .i64 st) ∧ W.cell? ⟨X, 4, none⟩ = some (.int .i64 lo) ∧ W.cell? ⟨X, 5, none⟩ = some (.int .i64 ju) ∧ W.cell? ⟨X, 6, none⟩ = some (.int .i64 rd) ∧ W.cell? ⟨X, 7, none⟩ = some (.int .i64 tk) ∧ W.cell? ⟨X, 8, none⟩ = some (.int .i64 ss) ∧ W.cell? ⟨X, 9, none⟩ = some (.int .i64 en) := ⟨h.bx.cell (i := 0) rfl, h.bx.cell (i := 1) rfl, h.bx.cell (i := 2) rfl, h.bx.cell (i := 3) rfl, h.bx.cell (i := 4) rfl, h.bx.cell (i := 5) rfl, h.bx.cell (i := 6) rfl, h.bx.cell (i := 7) rfl, h.bx.cell (i := 8) rfl, h.bx.cell (i := 9) rfl⟩
theorem le_join10e (a0 a1 a2 a3 a4 a5 a6 a7 a8 a9 : List UInt8) : Lib.join [a0, a1, a2, a3, a4, a5, a6, a7, a8, a9] [32] = ((((((((((((((((((a0 ++ [32]) ++ a1) ++ [32]) ++ a2) ++ [32]) ++ a3) ++ [32]) ++ a4) ++ [32]) ++ a5) ++ [32]) ++ a6) ++ [32]) ++ a7) ++ [32]) ++ a8) ++ [32]) ++ a9) := by simp [Lib.join, List.intercalate, List.intersperse]
theorem Le.t_appL (a b : List UInt8) : Le.t a ++ Le.t b = Le.t (a ++ b) := by
  refine Le.t_of ?_
  rw [ByteArray.data_append, Array.toList_append, Le.t_list, Le.t_list]
theorem rl_num6 (n : Int) (h : Le.i64 n) (X : ByteArray) (hX : X = Le.num n) (w : World) : Calls Tryd.prog 29 #[.int .i64 n] w fun e w' => e = .returned (.string X) ∧ Below w.heap.size w w' := rl_num n h.1 h.2 X hX w
set_option maxRecDepth 20000 in
set_option maxHeartbeats 16000000 in
theorem rl_line (i sc fr st lo ju rd tk ss en : Int) (HI : Le.i64 i) (HSC : Le.i64 sc) (HFR : Le.i64 fr) (HST : Le.i64 st) (HLO : Le.i64 lo) (HJU : Le.i64 ju) (HRD : Le.i64 rd) (HTK : Le.i64 tk) (HEN : Le.i64 en) (w : World) :
    Calls Tryd.prog 16 #[.agg #[.int .i64 i, .int .i64 sc, .int .i64 fr, .int .i64 st, .int .i64 lo, .int .i64 ju, .int .i64 rd, .int .i64 tk, .int .i64 ss, .int .i64 en]] w fun e w' => e = .returned (.string (Le.t (Le.line i sc fr st lo ju rd tk ss en))) ∧ Below w.heap.size w w' := by
  obtain ⟨X, hX⟩ : ∃ X, w.heap.size = X := ⟨_, rfl⟩
  have k0 : Below w.heap.size w (w.alloc (.cells #[.int .i64 i, .int .i64 sc, .int .i64 fr, .int .i64 st, .int .i64 lo, .int .i64 ju, .int .i64 rd, .int .i64 tk, .int .i64 ss, .int .i64 en] 32)) := (Below.refl _ _).alloc (Nat.le_refl _) _
  have HS : Hid (LR w (w.alloc (.cells #[.int .i64 i, .int .i64 sc, .int .i64 fr, .int .i64 st, .int .i64 lo, .int .i64 ju, .int .i64 rd, .int .i64 tk, .int .i64 ss, .int .i64 en] 32)) X [.int .i64 i, .int .i64 sc, .int .i64 fr, .int .i64 st, .int .i64 lo, .int .i64 ju, .int .i64 rd, .int .i64 tk, .int .i64 ss, .int .i64 en] 32) := Lib.hid ⟨by rw [← hX]; exact Blk.newA _ _ _, k0, by simp⟩
  have HB := Lib.hid (And.intro HI (And.intro HSC (And.intro HFR (And.intro HST (And.intro HLO (And.intro HJU (And.intro HRD (And.intro HTK HEN))))))))
  have HB9 : Hid (fr ≤ 9223372036854775807 ∧ en ≤ 9223372036854775807) := Lib.hid ⟨HFR.2, HEN.2⟩
  obtain ⟨tf, htf⟩ : ∃ n : Nat, Tk.own fr = (n : Int) := ⟨(Tk.own fr).toNat, by have := Tk.own_nn fr; omega⟩
  obtain ⟨te, hte⟩ : ∃ n : Nat, Tk.own en = (n : Int) := ⟨(Tk.own en).toNat, by have := Tk.own_nn en; omega⟩
  obtain ⟨N0, hN0⟩ : ∃ N, Le.t (Lib.itoa i) = N := ⟨_, rfl⟩
  have lN0 : N0 = Le.t (Lib.itoa i) := hN0.symm
  obtain ⟨N1, hN1⟩ : ∃ N, Le.t (Lib.itoa sc) = N := ⟨_, rfl⟩
  have lN1 : N1 = Le.t (Lib.itoa sc) := hN1.symm
  obtain ⟨N2, hN2⟩ : ∃ N, Le.t (Le.tt fr) = N := ⟨_, rfl⟩
  have lN2 : N2 = Le.t (Le.tt fr) := hN2.symm
  obtain ⟨N3, hN3⟩ : ∃ N, Le.t (Lib.itoa st) = N := ⟨_, rfl⟩
  have lN3 : N3 = Le.t (Lib.itoa st) := hN3.symm
  obtain ⟨N4, hN4⟩ : ∃ N, Le.t (Lib.itoa lo) = N := ⟨_, rfl⟩
  have lN4 : N4 = Le.t (Lib.itoa lo) := hN4.symm
  obtain ⟨N5, hN5⟩ : ∃ N, Le.t (Lib.itoa ju) = N := ⟨_, rfl⟩
  have lN5 : N5 = Le.t (Lib.itoa ju) := hN5.symm
  obtain ⟨N6, hN6⟩ : ∃ N, Le.t (Lib.itoa rd) = N := ⟨_, rfl⟩
  have lN6 : N6 = Le.t (Lib.itoa rd) := hN6.symm
  obtain ⟨N7, hN7⟩ : ∃ N, Le.t (Lib.itoa tk) = N := ⟨_, rfl⟩
  have lN7 : N7 = Le.t (Lib.itoa tk) := hN7.symm
  obtain ⟨N9, hN9⟩ : ∃ N, Le.t (Le.tt en) = N := ⟨_, rfl⟩
  have lN9 : N9 = Le.t (Le.tt en) := hN9.symm
  have zN0 : N0.size ≤ 30 := by rw [lN0, Le.t_size]; exact Le.itoa_len HI
  have zN1 : N1.size ≤ 30 := by rw [lN1, Le.t_size]; exact Le.itoa_len HSC
  have zN2 : N2.size ≤ 30 := by rw [lN2, Le.t_size]; exact Le.tt_len HFR
  have zN3 : N3.size ≤ 30 := by rw [lN3, Le.t_size]; exact Le.itoa_len HST
  have zN4 : N4.size ≤ 30 := by rw [lN4, Le.t_size]; exact Le.itoa_len HLO
  have zN5 : N5.size ≤ 30 := by rw [lN5, Le.t_size]; exact Le.itoa_len HJU
  have zN6 : N6.size ≤ 30 := by rw [lN6, Le.t_size]; exact Le.itoa_len HRD
  have zN7 : N7.size ≤ 30 := by rw [lN7, Le.t_size]; exact Le.itoa_len HTK
  have zN9 : N9.size ≤ 30 := by rw [lN9, Le.t_size]; exact Le.tt_len HEN
  clear hN0 hN1 hN2 hN3 hN4 hN5 hN6 hN7 hN9
  have HT : Hid (Tk.own fr = (tf : Int) ∧ N2.data.toList = Tx.text tf ∧ Tk.own en = (te : Int) ∧ N9.data.toList = Tx.text te) := Lib.hid ⟨htf, by rw [lN2, Le.t_list]; unfold Le.tt; rw [htf]; rfl, hte, by rw [lN9, Le.t_list]; unfold Le.tt; rw [hte]; rfl⟩
  have HN : Hid (N0 = Le.num i ∧ N1 = Le.num sc ∧ N2 = N2 ∧ N3 = Le.num st ∧ N4 = Le.num lo ∧ N5 = Le.num ju ∧ N6 = Le.num rd ∧ N7 = Le.num tk) := Lib.hid ⟨lN0, lN1, rfl, lN3, lN4, lN5, lN6, lN7⟩
  clear HI HSC HFR HST HLO HJU HRD HTK HEN htf hte k0
  obtain ⟨P1, hP1⟩ : ∃ P1, N0 ++ ({ data := #[32] } : ByteArray) = P1 := ⟨_, rfl⟩
  have lP1 : P1 = Le.t (Lib.itoa i ++ [32]) := by rw [← hP1, lN0]; exact Le.t_appL _ _
  obtain ⟨P2, hP2⟩ : ∃ P2, P1 ++ N1 = P2 := ⟨_, rfl⟩
  have lP2 : P2 = Le.t ((Lib.itoa i ++ [32]) ++ (Lib.itoa sc)) := by rw [← hP2, lP1, lN1]; exact Le.t_appL _ _
  obtain ⟨P3, hP3⟩ : ∃ P3, P2 ++ ({ data := #[32] } : ByteArray) = P3 := ⟨_, rfl⟩
  have lP3 : P3 = Le.t (((Lib.itoa i ++ [32]) ++ (Lib.itoa sc)) ++ [32]) := by rw [← hP3, lP2]; exact Le.t_appL _ _
  obtain ⟨P4, hP4⟩ : ∃ P4, P3 ++ N2 = P4 := ⟨_, rfl⟩
  have lP4 : P4 = Le.t ((((Lib.itoa i ++ [32]) ++ (Lib.itoa sc)) ++ [32]) ++ (Le.tt fr)) := by rw [← hP4, lP3, lN2]; exact Le.t_appL _ _
  obtain ⟨P5, hP5⟩ : ∃ P5, P4 ++ ({ data := #[32] } : ByteArray) = P5 := ⟨_, rfl⟩
  have lP5 : P5 = Le.t (((((Lib.itoa i ++ [32]) ++ (Lib.itoa sc)) ++ [32]) ++ (Le.tt fr)) ++ [32]) := by rw [← hP5, lP4]; exact Le.t_appL _ _
  obtain ⟨P6, hP6⟩ : ∃ P6, P5 ++ N3 = P6 := ⟨_, rfl⟩
  have lP6 : P6 = Le.t ((((((Lib.itoa i ++ [32]) ++ (Lib.itoa sc)) ++ [32]) ++ (Le.tt fr)) ++ [32]) ++ (Lib.itoa st)) := by rw [← hP6, lP5, lN3]; exact Le.t_appL _ _
  obtain ⟨P7, hP7⟩ : ∃ P7, P6 ++ ({ data := #[32] } : ByteArray) = P7 := ⟨_, rfl⟩
  have lP7 : P7 = Le.t (((((((Lib.itoa i ++ [32]) ++ (Lib.itoa sc)) ++ [32]) ++ (Le.tt fr)) ++ [32]) ++ (Lib.itoa st)) ++ [32]) := by rw [← hP7, lP6]; exact Le.t_appL _ _
  obtain ⟨P8, hP8⟩ : ∃ P8, P7 ++ N4 = P8 := ⟨_, rfl⟩
  have lP8 : P8 = Le.t ((((((((Lib.itoa i ++ [32]) ++ (Lib.itoa sc)) ++ [32]) ++ (Le.tt fr)) ++ [32]) ++ (Lib.itoa st)) ++ [32]) ++ (Lib.itoa lo)) := by rw [← hP8, lP7, lN4]; exact Le.t_appL _ _
  obtain ⟨P9, hP9⟩ : ∃ P9, P8 ++ ({ data := #[32] } : ByteArray) = P9 := ⟨_, rfl⟩
  have lP9 : P9 = Le.t (((((((((Lib.itoa i ++ [32]) ++ (Lib.itoa sc)) ++ [32]) ++ (Le.tt fr)) ++ [32]) ++ (Lib.itoa st)) ++ [32]) ++ (Lib.itoa lo)) ++ [32]) := by rw [← hP9, lP8]; exact Le.t_appL _ _
  obtain ⟨P10, hP10⟩ : ∃ P10, P9 ++ N5 = P10 := ⟨_, rfl⟩
  have lP10 : P10 = Le.t ((((((((((Lib.itoa i ++ [32]) ++ (Lib.itoa sc)) ++ [32]) ++ (Le.tt fr)) ++ [32]) ++ (Lib.itoa st)) ++ [32]) ++ (Lib.itoa lo)) ++ [32]) ++ (Lib.itoa ju)) := by rw [← hP10, lP9, lN5]; exact Le.t_appL _ _
  obtain ⟨P11, hP11⟩ : ∃ P11, P10 ++ ({ data := #[32] } : ByteArray) = P11 := ⟨_, rfl⟩
  have lP11 : P11 = Le.t (((((((((((Lib.itoa i ++ [32]) ++ (Lib.itoa sc)) ++ [32]) ++ (Le.tt fr)) ++ [32]) ++ (Lib.itoa st)) ++ [32]) ++ (Lib.itoa lo)) ++ [32]) ++ (Lib.itoa ju)) ++ [32]) := by rw [← hP11, lP10]; exact Le.t_appL _ _
  obtain ⟨P12, hP12⟩ : ∃ P12, P11 ++ N6 = P12 := ⟨_, rfl⟩
  have lP12 : P12 = Le.t ((((((((((((Lib.itoa i ++ [32]) ++ (Lib.itoa sc)) ++ [32]) ++ (Le.tt fr)) ++ [32]) ++ (Lib.itoa st)) ++ [32]) ++ (Lib.itoa lo)) ++ [32]) ++ (Lib.itoa ju)) ++ [32]) ++ (Lib.itoa rd)) := by rw [← hP12, lP11, lN6]; exact Le.t_appL _ _
  obtain ⟨P13, hP13⟩ : ∃ P13, P12 ++ ({ data := #[32] } : ByteArray) = P13 := ⟨_, rfl⟩
  have lP13 : P13 = Le.t (((((((((((((Lib.itoa i ++ [32]) ++ (Lib.itoa sc)) ++ [32]) ++ (Le.tt fr)) ++ [32]) ++ (Lib.itoa st)) ++ [32]) ++ (Lib.itoa lo)) ++ [32]) ++ (Lib.itoa ju)) ++ [32]) ++ (Lib.itoa rd)) ++ [32]) := by rw [← hP13, lP12]; exact Le.t_appL _ _
  obtain ⟨P14, hP14⟩ : ∃ P14, P13 ++ N7 = P14 := ⟨_, rfl⟩
  have lP14 : P14 = Le.t ((((((((((((((Lib.itoa i ++ [32]) ++ (Lib.itoa sc)) ++ [32]) ++ (Le.tt fr)) ++ [32]) ++ (Lib.itoa st)) ++ [32]) ++ (Lib.itoa lo)) ++ [32]) ++ (Lib.itoa ju)) ++ [32]) ++ (Lib.itoa rd)) ++ [32]) ++ (Lib.itoa tk)) := by rw [← hP14, lP13, lN7]; exact Le.t_appL _ _
  obtain ⟨P15, hP15⟩ : ∃ P15, P14 ++ ({ data := #[32] } : ByteArray) = P15 := ⟨_, rfl⟩
  have lP15 : P15 = Le.t (((((((((((((((Lib.itoa i ++ [32]) ++ (Lib.itoa sc)) ++ [32]) ++ (Le.tt fr)) ++ [32]) ++ (Lib.itoa st)) ++ [32]) ++ (Lib.itoa lo)) ++ [32]) ++ (Lib.itoa ju)) ++ [32]) ++ (Lib.itoa rd)) ++ [32]) ++ (Lib.itoa tk)) ++ [32]) := by rw [← hP15, lP14]; exact Le.t_appL _ _
  have sP1 : P1.size ≤ 62 := by rw [← hP1, ByteArray.size_append]; show _ + 1 ≤ _; omega
  have sP2 : P2.size ≤ 93 := by rw [← hP2, ByteArray.size_append]; omega
  have sP3 : P3.size ≤ 124 := by rw [← hP3, ByteArray.size_append]; show _ + 1 ≤ _; omega
  have sP4 : P4.size ≤ 155 := by rw [← hP4, ByteArray.size_append]; omega
  have sP5 : P5.size ≤ 186 := by rw [← hP5, ByteArray.size_append]; show _ + 1 ≤ _; omega
  have sP6 : P6.size ≤ 217 := by rw [← hP6, ByteArray.size_append]; omega
  have sP7 : P7.size ≤ 248 := by rw [← hP7, ByteArray.size_append]; show _ + 1 ≤ _; omega
  have sP8 : P8.size ≤ 279 := by rw [← hP8, ByteArray.size_append]; omega
  have sP9 : P9.size ≤ 310 := by rw [← hP9, ByteArray.size_append]; show _ + 1 ≤ _; omega
  have sP10 : P10.size ≤ 341 := by rw [← hP10, ByteArray.size_append]; omega
  have sP11 : P11.size ≤ 372 := by rw [← hP11, ByteArray.size_append]; show _ + 1 ≤ _; omega
  have sP12 : P12.size ≤ 403 := by rw [← hP12, ByteArray.size_append]; omega
  have sP13 : P13.size ≤ 434 := by rw [← hP13, ByteArray.size_append]; show _ + 1 ≤ _; omega
  have sP14 : P14.size ≤ 465 := by rw [← hP14, ByteArray.size_append]; omega
  have sP15 : P15.size ≤ 496 := by rw [← hP15, ByteArray.size_append]; show _ + 1 ≤ _; omega
  have c1 : ¬ (9223372036854775807 < N0.size + 1) := by omega
  have c2 : ¬ (9223372036854775807 < P1.size + N1.size) := by omega
  have c3 : ¬ (9223372036854775807 < P2.size + 1) := by omega
  have c4 : ¬ (9223372036854775807 < P3.size + N2.size) := by omega
  have c5 : ¬ (9223372036854775807 < P4.size + 1) := by omega
  have c6 : ¬ (9223372036854775807 < P5.size + N3.size) := by omega
  have c7 : ¬ (9223372036854775807 < P6.size + 1) := by omega
  have c8 : ¬ (9223372036854775807 < P7.size + N4.size) := by omega
  have c9 : ¬ (9223372036854775807 < P8.size + 1) := by omega
  have c10 : ¬ (9223372036854775807 < P9.size + N5.size) := by omega
  have c11 : ¬ (9223372036854775807 < P10.size + 1) := by omega
  have c12 : ¬ (9223372036854775807 < P11.size + N6.size) := by omega
  have c13 : ¬ (9223372036854775807 < P12.size + 1) := by omega
  have c14 : ¬ (9223372036854775807 < P13.size + N7.size) := by omega
  have c15 : ¬ (9223372036854775807 < P14.size + 1) := by omega
  obtain ⟨W8, hW8⟩ : ∃ x, Le.word ss = x := ⟨_, rfl⟩
  have HW := Lib.hid hW8
  clear hW8
  by_cases hw : W8 = { data := #[] }
  · subst hw
    obtain ⟨Q1, hQ1⟩ : ∃ Q1, P15 ++ ({ data := #[63] } : ByteArray) = Q1 := ⟨_, rfl⟩
    have lQ1 : Q1 = Le.t ((((((((((((((((Lib.itoa i ++ [32]) ++ (Lib.itoa sc)) ++ [32]) ++ (Le.tt fr)) ++ [32]) ++ (Lib.itoa st)) ++ [32]) ++ (Lib.itoa lo)) ++ [32]) ++ (Lib.itoa ju)) ++ [32]) ++ (Lib.itoa rd)) ++ [32]) ++ (Lib.itoa tk)) ++ [32]) ++ [63]) := by rw [← hQ1, lP15]; exact Le.t_appL _ _
    obtain ⟨Q2, hQ2⟩ : ∃ Q2, Q1 ++ ({ data := #[] } : ByteArray) = Q2 := ⟨_, rfl⟩
    have lQ2 : Q2 = Le.t ((((((((((((((((Lib.itoa i ++ [32]) ++ (Lib.itoa sc)) ++ [32]) ++ (Le.tt fr)) ++ [32]) ++ (Lib.itoa st)) ++ [32]) ++ (Lib.itoa lo)) ++ [32]) ++ (Lib.itoa ju)) ++ [32]) ++ (Lib.itoa rd)) ++ [32]) ++ (Lib.itoa tk)) ++ [32]) ++ [63]) := by rw [← hQ2, lQ1]; exact (Le.t_appL _ []).trans (by rw [List.append_nil])
    have sQ1 : Q1.size ≤ 600 := by rw [← hQ1, ByteArray.size_append]; show _ + 1 ≤ _; omega
    have sQ2 : Q2.size ≤ 600 := by rw [lQ2, ← lQ1]; exact sQ1
    have cQ1 : ¬ (9223372036854775807 < P15.size + 1) := by omega
    have cQ2 : ¬ (9223372036854775807 < Q1.size + 0) := by omega
    have cQ2' : ¬ (9223372036854775807 < Q1.size) := by omega
    obtain ⟨Q3, hQ3⟩ : ∃ Q3, Q2 ++ ({ data := #[32] } : ByteArray) = Q3 := ⟨_, rfl⟩
    have lQ3 : Q3 = Le.t ((((((((((((((((Lib.itoa i ++ [32]) ++ (Lib.itoa sc)) ++ [32]) ++ (Le.tt fr)) ++ [32]) ++ (Lib.itoa st)) ++ [32]) ++ (Lib.itoa lo)) ++ [32]) ++ (Lib.itoa ju)) ++ [32]) ++ (Lib.itoa rd)) ++ [32]) ++ (Lib.itoa tk)) ++ [32]) ++ [63] ++ [32]) := by rw [← hQ3, lQ2]; exact Le.t_appL _ _
    have sQ3 : Q3.size ≤ 700 := by rw [← hQ3, ByteArray.size_append]; show _ + 1 ≤ _; omega
    obtain ⟨Q4, hQ4⟩ : ∃ Q4, Q3 ++ N9 = Q4 := ⟨_, rfl⟩
    have cQ3 : ¬ (9223372036854775807 < Q2.size + 1) := by omega
    have cQ4 : ¬ (9223372036854775807 < Q3.size + N9.size) := by omega
    have HR : Hid (Q4 = Le.t (Le.line i sc fr st lo ju rd tk ss en)) := Lib.hid (by
      have hwd : Le.wd ss = [63] := by unfold Le.wd; rw [HW.out, if_pos rfl]
      rw [← hQ4, lQ3, lN9]
      refine (Le.t_appL _ _).trans ?_
      unfold Le.line
      rw [hwd]
      rw [le_join10e])
    clear lN0 lN1 lN2 lN3 lN4 lN5 lN6 lN7 lN9 lP1 lP2 lP3 lP4 lP5 lP6 lP7 lP8 lP9 lP10 lP11 lP12 lP13 lP14 lP15 sP1 sP2 sP3 sP4 sP5 sP6 sP7 sP8 sP9 sP10 sP11 sP12 sP13 sP14 sP15 lQ2 lQ3 sQ2 sQ3 zN0 zN1 zN2 zN3 zN4 zN5 zN6 zN7 zN9 lQ1 sQ1
    go_enter Tryd.func16, Tryd.ntmps16
    go_upto_region 1 with fail
    clear hX
    revert HS
    generalize (w.alloc (.cells #[.int .i64 i, .int .i64 sc, .int .i64 fr, .int .i64 st, .int .i64 lo, .int .i64 ju, .int .i64 rd, .int .i64 tk, .int .i64 ss, .int .i64 en] 32)) = W1
    intro HS
    replace HS := Lib.hid (HS.out.below (Below.refl _ _).drew)
    have s0 := HS.out.s10
    go_region_held3 (fun W => W.cell? ⟨X, 0, none⟩ = some (.int .i64 i) ∧ W.cell? ⟨X, 1, none⟩ = some (.int .i64 sc) ∧ W.cell? ⟨X, 2, none⟩ = some (.int .i64 fr) ∧ W.cell? ⟨X, 3, none⟩ = some (.int .i64 st) ∧ W.cell? ⟨X, 4, none⟩ = some (.int .i64 lo) ∧ W.cell? ⟨X, 5, none⟩ = some (.int .i64 ju) ∧ W.cell? ⟨X, 6, none⟩ = some (.int .i64 rd) ∧ W.cell? ⟨X, 7, none⟩ = some (.int .i64 tk) ∧ W.cell? ⟨X, 8, none⟩ = some (.int .i64 ss) ∧ W.cell? ⟨X, 9, none⟩ = some (.int .i64 en)) (first | with_reducible exact sA | with_reducible exact s0 | go_keep) (first
      | (go_at_call 29; (with_reducible refine (rl_num6 i HB.out.1 N0 HN.out.1 _).mono ?_); rintro e1 V1 ⟨rfl, q3⟩; have HSn := Lib.hid (HS.out.below q3); clear HS; have HS := HSn; clear HSn q3; have sA := HS.out.s10)
      | (go_at_call 29; (with_reducible refine (rl_num6 sc HB.out.2.1 N1 HN.out.2.1 _).mono ?_); rintro e1 V1 ⟨rfl, q3⟩; have HSn := Lib.hid (HS.out.below q3); clear HS; have HS := HSn; clear HSn q3; have sA := HS.out.s10)
      | (go_at_call 29; (with_reducible refine (rl_num6 st HB.out.2.2.2.1 N3 HN.out.2.2.2.1 _).mono ?_); rintro e1 V1 ⟨rfl, q3⟩; have HSn := Lib.hid (HS.out.below q3); clear HS; have HS := HSn; clear HSn q3; have sA := HS.out.s10)
      | (go_at_call 29; (with_reducible refine (rl_num6 lo HB.out.2.2.2.2.1 N4 HN.out.2.2.2.2.1 _).mono ?_); rintro e1 V1 ⟨rfl, q3⟩; have HSn := Lib.hid (HS.out.below q3); clear HS; have HS := HSn; clear HSn q3; have sA := HS.out.s10)
      | (go_at_call 29; (with_reducible refine (rl_num6 ju HB.out.2.2.2.2.2.1 N5 HN.out.2.2.2.2.2.1 _).mono ?_); rintro e1 V1 ⟨rfl, q3⟩; have HSn := Lib.hid (HS.out.below q3); clear HS; have HS := HSn; clear HSn q3; have sA := HS.out.s10)
      | (go_at_call 29; (with_reducible refine (rl_num6 rd HB.out.2.2.2.2.2.2.1 N6 HN.out.2.2.2.2.2.2.1 _).mono ?_); rintro e1 V1 ⟨rfl, q3⟩; have HSn := Lib.hid (HS.out.below q3); clear HS; have HS := HSn; clear HSn q3; have sA := HS.out.s10)
      | (go_at_call 29; (with_reducible refine (rl_num6 tk HB.out.2.2.2.2.2.2.2.1 N7 HN.out.2.2.2.2.2.2.2 _).mono ?_); rintro e1 V1 ⟨rfl, q3⟩; have HSn := Lib.hid (HS.out.below q3); clear HS; have HS := HSn; clear HSn q3; have sA := HS.out.s10)
      | (go_at_call 30; (with_reducible refine (tr_text fr HB9.out.1 tf HT.out.1 N2 HT.out.2.1 _).mono ?_); rintro e1 V1 ⟨rfl, q3⟩; have HSn := Lib.hid (HS.out.below q3); clear HS; have HS := HSn; clear HSn q3; have sA := HS.out.s10))
    all_goals
      have s8 := HS.out.bx.cell (i := 8) rfl
      go_upto_region 4 with (go_at_call 31; (with_reducible refine (rl_status ss _ HW.out _).mono ?_); rintro e1 W2 ⟨rfl, q3⟩; have HSn := Lib.hid (HS.out.below q3); clear HS; have HS := HSn; clear HSn q3 s8)
      try clear sA
      try clear s0
      replace HS := Lib.hid (HS.out.below (Below.refl _ _).drew)
      have s0 := HS.out.s10
      go_region_held3 (fun W => W.cell? ⟨X, 0, none⟩ = some (.int .i64 i) ∧ W.cell? ⟨X, 1, none⟩ = some (.int .i64 sc) ∧ W.cell? ⟨X, 2, none⟩ = some (.int .i64 fr) ∧ W.cell? ⟨X, 3, none⟩ = some (.int .i64 st) ∧ W.cell? ⟨X, 4, none⟩ = some (.int .i64 lo) ∧ W.cell? ⟨X, 5, none⟩ = some (.int .i64 ju) ∧ W.cell? ⟨X, 6, none⟩ = some (.int .i64 rd) ∧ W.cell? ⟨X, 7, none⟩ = some (.int .i64 tk) ∧ W.cell? ⟨X, 8, none⟩ = some (.int .i64 ss) ∧ W.cell? ⟨X, 9, none⟩ = some (.int .i64 en)) (first | with_reducible exact sA | with_reducible exact s0 | go_keep) (first
      | (go_at_call 31; (with_reducible refine (rl_status ss _ HW.out _).mono ?_); rintro e1 V1 ⟨rfl, q3⟩; have HSn := Lib.hid (HS.out.below q3); clear HS; have HS := HSn; clear HSn q3; have sA := HS.out.s10)
      | (go_at_call 30; (with_reducible refine (tr_text en HB9.out.2 te HT.out.2.2.1 N9 HT.out.2.2.2 _).mono ?_); rintro e1 V1 ⟨rfl, q3⟩; have HSn := Lib.hid (HS.out.below q3); clear HS; have HS := HSn; clear HSn q3; have sA := HS.out.s10))
      all_goals
        go_wp2_with fail
        go_ret
        exact ⟨by rw [← HR.out]; rfl, HS.out.be⟩
  · skip
    obtain ⟨Q2, hQ2⟩ : ∃ Q2, P15 ++ W8 = Q2 := ⟨_, rfl⟩
    have hws : W8.size ≤ 30 := by rw [← HW.out]; exact Le.word_le ss
    have lQ2 : Q2 = Le.t ((((((((((((((((Lib.itoa i ++ [32]) ++ (Lib.itoa sc)) ++ [32]) ++ (Le.tt fr)) ++ [32]) ++ (Lib.itoa st)) ++ [32]) ++ (Lib.itoa lo)) ++ [32]) ++ (Lib.itoa ju)) ++ [32]) ++ (Lib.itoa rd)) ++ [32]) ++ (Lib.itoa tk)) ++ [32]) ++ W8.data.toList) := by rw [← hQ2, lP15]; exact (congrArg (_ ++ ·) (Le.t_of rfl)).trans (Le.t_appL _ _)
    have sQ2 : Q2.size ≤ 600 := by rw [← hQ2, ByteArray.size_append]; omega
    have cQ2 : ¬ (9223372036854775807 < P15.size + W8.size) := by omega
    have hw2 : W8.toList.isEmpty = false := by
      rw [Lib.toList_data]
      cases h : W8.data.toList with
      | nil => exact absurd (ByteArray.ext (Array.ext' h)) hw
      | cons a l => rfl
    obtain ⟨Q3, hQ3⟩ : ∃ Q3, Q2 ++ ({ data := #[32] } : ByteArray) = Q3 := ⟨_, rfl⟩
    have lQ3 : Q3 = Le.t ((((((((((((((((Lib.itoa i ++ [32]) ++ (Lib.itoa sc)) ++ [32]) ++ (Le.tt fr)) ++ [32]) ++ (Lib.itoa st)) ++ [32]) ++ (Lib.itoa lo)) ++ [32]) ++ (Lib.itoa ju)) ++ [32]) ++ (Lib.itoa rd)) ++ [32]) ++ (Lib.itoa tk)) ++ [32]) ++ W8.data.toList ++ [32]) := by rw [← hQ3, lQ2]; exact Le.t_appL _ _
    have sQ3 : Q3.size ≤ 700 := by rw [← hQ3, ByteArray.size_append]; show _ + 1 ≤ _; omega
    obtain ⟨Q4, hQ4⟩ : ∃ Q4, Q3 ++ N9 = Q4 := ⟨_, rfl⟩
    have cQ3 : ¬ (9223372036854775807 < Q2.size + 1) := by omega
    have cQ4 : ¬ (9223372036854775807 < Q3.size + N9.size) := by omega
    have HR : Hid (Q4 = Le.t (Le.line i sc fr st lo ju rd tk ss en)) := Lib.hid (by
      have hwd : Le.wd ss = W8.data.toList := by unfold Le.wd; rw [HW.out, if_neg (fun e => hw (ByteArray.ext (Array.ext' e)))]
      rw [← hQ4, lQ3, lN9]
      refine (Le.t_appL _ _).trans ?_
      unfold Le.line
      rw [hwd]
      rw [le_join10e])
    clear lN0 lN1 lN2 lN3 lN4 lN5 lN6 lN7 lN9 lP1 lP2 lP3 lP4 lP5 lP6 lP7 lP8 lP9 lP10 lP11 lP12 lP13 lP14 lP15 sP1 sP2 sP3 sP4 sP5 sP6 sP7 sP8 sP9 sP10 sP11 sP12 sP13 sP14 sP15 lQ2 lQ3 sQ2 sQ3 zN0 zN1 zN2 zN3 zN4 zN5 zN6 zN7 zN9 hws hw
    go_enter Tryd.func16, Tryd.ntmps16
    go_upto_region 1 with fail
    clear hX
    revert HS
    generalize (w.alloc (.cells #[.int .i64 i, .int .i64 sc, .int .i64 fr, .int .i64 st, .int .i64 lo, .int .i64 ju, .int .i64 rd, .int .i64 tk, .int .i64 ss, .int .i64 en] 32)) = W1
    intro HS
    replace HS := Lib.hid (HS.out.below (Below.refl _ _).drew)
    have s0 := HS.out.s10
    go_region_held3 (fun W => W.cell? ⟨X, 0, none⟩ = some (.int .i64 i) ∧ W.cell? ⟨X, 1, none⟩ = some (.int .i64 sc) ∧ W.cell? ⟨X, 2, none⟩ = some (.int .i64 fr) ∧ W.cell? ⟨X, 3, none⟩ = some (.int .i64 st) ∧ W.cell? ⟨X, 4, none⟩ = some (.int .i64 lo) ∧ W.cell? ⟨X, 5, none⟩ = some (.int .i64 ju) ∧ W.cell? ⟨X, 6, none⟩ = some (.int .i64 rd) ∧ W.cell? ⟨X, 7, none⟩ = some (.int .i64 tk) ∧ W.cell? ⟨X, 8, none⟩ = some (.int .i64 ss) ∧ W.cell? ⟨X, 9, none⟩ = some (.int .i64 en)) (first | with_reducible exact sA | with_reducible exact s0 | go_keep) (first
      | (go_at_call 29; (with_reducible refine (rl_num6 i HB.out.1 N0 HN.out.1 _).mono ?_); rintro e1 V1 ⟨rfl, q3⟩; have HSn := Lib.hid (HS.out.below q3); clear HS; have HS := HSn; clear HSn q3; have sA := HS.out.s10)
      | (go_at_call 29; (with_reducible refine (rl_num6 sc HB.out.2.1 N1 HN.out.2.1 _).mono ?_); rintro e1 V1 ⟨rfl, q3⟩; have HSn := Lib.hid (HS.out.below q3); clear HS; have HS := HSn; clear HSn q3; have sA := HS.out.s10)
      | (go_at_call 29; (with_reducible refine (rl_num6 st HB.out.2.2.2.1 N3 HN.out.2.2.2.1 _).mono ?_); rintro e1 V1 ⟨rfl, q3⟩; have HSn := Lib.hid (HS.out.below q3); clear HS; have HS := HSn; clear HSn q3; have sA := HS.out.s10)
      | (go_at_call 29; (with_reducible refine (rl_num6 lo HB.out.2.2.2.2.1 N4 HN.out.2.2.2.2.1 _).mono ?_); rintro e1 V1 ⟨rfl, q3⟩; have HSn := Lib.hid (HS.out.below q3); clear HS; have HS := HSn; clear HSn q3; have sA := HS.out.s10)
      | (go_at_call 29; (with_reducible refine (rl_num6 ju HB.out.2.2.2.2.2.1 N5 HN.out.2.2.2.2.2.1 _).mono ?_); rintro e1 V1 ⟨rfl, q3⟩; have HSn := Lib.hid (HS.out.below q3); clear HS; have HS := HSn; clear HSn q3; have sA := HS.out.s10)
      | (go_at_call 29; (with_reducible refine (rl_num6 rd HB.out.2.2.2.2.2.2.1 N6 HN.out.2.2.2.2.2.2.1 _).mono ?_); rintro e1 V1 ⟨rfl, q3⟩; have HSn := Lib.hid (HS.out.below q3); clear HS; have HS := HSn; clear HSn q3; have sA := HS.out.s10)
      | (go_at_call 29; (with_reducible refine (rl_num6 tk HB.out.2.2.2.2.2.2.2.1 N7 HN.out.2.2.2.2.2.2.2 _).mono ?_); rintro e1 V1 ⟨rfl, q3⟩; have HSn := Lib.hid (HS.out.below q3); clear HS; have HS := HSn; clear HSn q3; have sA := HS.out.s10)
      | (go_at_call 30; (with_reducible refine (tr_text fr HB9.out.1 tf HT.out.1 N2 HT.out.2.1 _).mono ?_); rintro e1 V1 ⟨rfl, q3⟩; have HSn := Lib.hid (HS.out.below q3); clear HS; have HS := HSn; clear HSn q3; have sA := HS.out.s10))
    all_goals
      have s8 := HS.out.bx.cell (i := 8) rfl
      go_upto_region 4 with (go_at_call 31; (with_reducible refine (rl_status ss _ HW.out _).mono ?_); rintro e1 W2 ⟨rfl, q3⟩; have HSn := Lib.hid (HS.out.below q3); clear HS; have HS := HSn; clear HSn q3 s8)
      try clear sA
      try clear s0
      replace HS := Lib.hid (HS.out.below (Below.refl _ _).drew)
      have s0 := HS.out.s10
      go_region_held3 (fun W => W.cell? ⟨X, 0, none⟩ = some (.int .i64 i) ∧ W.cell? ⟨X, 1, none⟩ = some (.int .i64 sc) ∧ W.cell? ⟨X, 2, none⟩ = some (.int .i64 fr) ∧ W.cell? ⟨X, 3, none⟩ = some (.int .i64 st) ∧ W.cell? ⟨X, 4, none⟩ = some (.int .i64 lo) ∧ W.cell? ⟨X, 5, none⟩ = some (.int .i64 ju) ∧ W.cell? ⟨X, 6, none⟩ = some (.int .i64 rd) ∧ W.cell? ⟨X, 7, none⟩ = some (.int .i64 tk) ∧ W.cell? ⟨X, 8, none⟩ = some (.int .i64 ss) ∧ W.cell? ⟨X, 9, none⟩ = some (.int .i64 en)) (first | with_reducible exact sA | with_reducible exact s0 | go_keep) (first
      | (go_at_call 31; (with_reducible refine (rl_status ss _ HW.out _).mono ?_); rintro e1 V1 ⟨rfl, q3⟩; have HSn := Lib.hid (HS.out.below q3); clear HS; have HS := HSn; clear HSn q3; have sA := HS.out.s10)
      | (go_at_call 30; (with_reducible refine (tr_text en HB9.out.2 te HT.out.2.2.1 N9 HT.out.2.2.2 _).mono ?_); rintro e1 V1 ⟨rfl, q3⟩; have HSn := Lib.hid (HS.out.below q3); clear HS; have HS := HSn; clear HSn q3; have sA := HS.out.s10))
      all_goals
        go_wp2_with fail
        go_ret
        exact ⟨by rw [← HR.out]; rfl, HS.out.be⟩
end Go.Proofs.YtdchedkhlfmpeaaDoor
