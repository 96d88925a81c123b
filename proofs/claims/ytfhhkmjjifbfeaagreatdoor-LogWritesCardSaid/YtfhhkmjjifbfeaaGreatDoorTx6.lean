/- Ticks as texts: Text. -/
import Derived.Test.YtfhhkmjjifbfeaaGreatDoorTx3
import Derived.Test.YtfhhkmjjifbfeaaGreatDoorTx5
import Derived.Test.YtfhhkmjjifbfeaaGreatDoorShelf
import Derived.Lib.LaidTab
namespace Go.Proofs.YtfhhkmjjifbfeaaGreatDoor
open Go.ChangeShapes Go.WideShapes Go.ChangeAt Go.RowKit
set_option linter.unusedSimpArgs false
set_option linter.unusedVariables false
theorem below_grow6 {w : World} (k : Nat) (os : Array Obj) : Below w.heap.size w (Go.Sort.grow (w.drewN k) os) :=
  ⟨rfl, rfl, rfl, by simp [Go.Sort.grow], fun j hj => by simpa using Go.Sort.heap_grow_old (w.drewN k) os (by simpa using hj)⟩
theorem Tx.bytes_ext {X Y : ByteArray} (h : X.data.toList = Y.data.toList) : X = Y := by
  cases X with | mk a => cases Y with | mk b => congr 1; exact Array.ext' h
theorem tab_below {W W' : World} (h : Below W.heap.size W W') (ht : Lib.TabIs Tryz.prog W "internal/strconv.uint64pow10" .u64 Lib.pow10Tab) : Lib.TabIs Tryz.prog W' "internal/strconv.uint64pow10" .u64 Lib.pow10Tab := by
  have hg : Tryz.prog.globalNamed "internal/strconv.uint64pow10" = some 2 := by kernel_rfl
  unfold Lib.TabIs at ht ⊢
  simp only [World.var?, hg, Option.bind_some] at ht ⊢
  have hs : 2 < W.heap.size := by
    rcases Nat.lt_or_ge 2 W.heap.size with h | h
    · exact h
    · rw [Array.getElem?_eq_none h] at ht; cases ht
  rw [h.block _ hs]
  exact ht
set_option maxRecDepth 20000 in
set_option maxHeartbeats 16000000 in
theorem tx_text (t : Int) (ht9 : t ≤ 9223372036854775807) (n : Nat) (hn : Tk.own t = (n : Int)) (X : ByteArray) (hX : X.data.toList = Tx.text n) (w : World) (htab : Lib.TabIs Tryz.prog w "internal/strconv.uint64pow10" .u64 Lib.pow10Tab) : Calls Tryz.prog 23 #[.int .i64 t] w fun e0 w' => e0 = .returned (.string X) ∧ Below w.heap.size w w' := by
  have hle := Tk.own_le t ht9
  rw [hn] at hle
  have HN := Lib.hid (And.intro hn hX)
  clear hn hX
  by_cases h9 : n = 9223372036854775807
  · subst h9
    have HE : Hid (X = ⟨#[110, 101, 118, 101, 114]⟩) := Lib.hid (Tx.bytes_ext (by rw [HN.out.2]; rfl))
    go_enter Tryz.func23, Tryz.ntmps23
    go_wp2_with (go_at_call 38; (with_reducible refine (own_any _ _).mono ?_); rintro e w' ⟨rfl, rfl⟩; rw [HN.out.1])
    go_ret
    exact ⟨by rw [HE.out]; rfl, Below.refl _ _⟩
  · have i1 : ¬ (n : Int) = 9223372036854775807 := by omega
    have i2 : ((n : Int) == 9223372036854775807) = false := by rw [beq_eq_false_iff_ne]; exact i1
    have HE : Hid (⟨(Lib.itoa (n : Int)).toArray⟩ = X) := Lib.hid (Tx.bytes_ext (by
      rw [HN.out.2]
      unfold Tx.text Lib.itoa
      rw [if_neg h9, if_neg (by omega), Int.toNat_natCast]))
    go_enter Tryz.func23, Tryz.ntmps23
    go_wp2_with (first
      | (go_at_call 38; (with_reducible refine (own_any _ _).mono ?_); rintro e w' ⟨rfl, rfl⟩; rw [HN.out.1])
      | (go_at_call 39; (with_reducible refine (Tryz.strconv_FormatInt_10 n (by omega) (by omega) _ htab).mono ?_); rintro e W1 ⟨rfl, k, os, rfl⟩; rw [HE.out]))
    go_ret
    exact ⟨rfl, below_grow6 _ _⟩
set_option maxRecDepth 20000 in
set_option maxHeartbeats 16000000 in
theorem tr_text (t : Int) (ht9 : t ≤ 9223372036854775807) (n : Nat) (hn : Tk.own t = (n : Int)) (X : ByteArray) (hX : X.data.toList = Tx.text n) (w : World) : Calls Tryz.prog 31 #[.int .i64 t] w fun e0 w' => e0 = .returned (.string X) ∧ Below w.heap.size w w' := by
  have hle := Tk.own_le t ht9
  rw [hn] at hle
  by_cases h9 : n = 9223372036854775807
  · subst h9
    obtain rfl : t = 9223372036854775807 := by unfold Tk.own at hn; omega
    have HE : Hid (X = ⟨#[110, 101, 118, 101, 114]⟩) := Lib.hid (Tx.bytes_ext (by rw [hX]; rfl))
    clear hn hX
    go_enter Tryz.func31, Tryz.ntmps31
    go_wp2_with fail
    go_ret
    exact ⟨by rw [HE.out]; rfl, Below.refl _ _⟩
  · have i1 : ¬ t = 9223372036854775807 := by unfold Tk.own at hn; omega
    have i2 : (t == 9223372036854775807) = false := by rw [beq_eq_false_iff_ne]; exact i1
    have HN : Hid (Tk.own t = (n : Int) ∧ X.data.toList = Lib.decDigits n) := Lib.hid ⟨hn, by rw [hX]; unfold Tx.text; rw [if_neg h9]⟩
    clear hn hX
    go_enter Tryz.func31, Tryz.ntmps31
    go_wp2_with (first
      | (go_at_call 49; (with_reducible refine (rown_any _ _).mono ?_); rintro e w' ⟨rfl, rfl⟩; rw [HN.out.1])
      | (go_at_call 47; (with_reducible refine (tr_digits n (by omega) X HN.out.2 _).mono ?_); rintro e W1 ⟨rfl, hb1⟩; have HB := Lib.hid hb1; clear hb1))
    go_ret
    exact ⟨rfl, HB.out⟩
end Go.Proofs.YtfhhkmjjifbfeaaGreatDoor
