/- Ticks as texts: Text. -/
import Derived.Test.YtfhhkmjjifbfeaaDoorTx3
import Derived.Test.YtfhhkmjjifbfeaaDoorTx5
import Derived.Test.YtfhhkmjjifbfeaaDoorShelf
import Derived.Lib.LaidTab
namespace Go.Proofs.YtfhhkmjjifbfeaaDoor
open Go.ChangeShapes Go.WideShapes Go.ChangeAt Go.RowKit
set_option linter.unusedSimpArgs false
set_option linter.unusedVariables false
theorem below_grow6 {w : World} (k : Nat) (os : Array Obj) : Below w.heap.size w (Go.Sort.grow (w.drewN k) os) :=
  ⟨rfl, rfl, rfl, by simp [Go.Sort.grow], fun j hj => by simpa using Go.Sort.heap_grow_old (w.drewN k) os (by simpa using hj)⟩
theorem Tx.bytes_ext {X Y : ByteArray} (h : X.data.toList = Y.data.toList) : X = Y := by
  cases X with | mk a => cases Y with | mk b => congr 1; exact Array.ext' h
theorem tab_below {W W' : World} (h : Below W.heap.size W W') (ht : Lib.TabIs Tryd.prog W "internal/strconv.uint64pow10" .u64 Lib.pow10Tab) : Lib.TabIs Tryd.prog W' "internal/strconv.uint64pow10" .u64 Lib.pow10Tab := by
  have hg : Tryd.prog.globalNamed "internal/strconv.uint64pow10" = some 7 := by kernel_rfl
  unfold Lib.TabIs at ht ⊢
  simp only [World.var?, hg, Option.bind_some] at ht ⊢
  have hs : 7 < W.heap.size := by
    rcases Nat.lt_or_ge 7 W.heap.size with h | h
    · exact h
    · rw [Array.getElem?_eq_none h] at ht; cases ht
  rw [h.block _ hs]
  exact ht
set_option maxRecDepth 20000 in
set_option maxHeartbeats 16000000 in
theorem tx_text (t : Int) (ht9 : t ≤ 9223372036854775807) (n : Nat) (hn : Tk.own t = (n : Int)) (X : ByteArray) (hX : X.data.toList = Tx.text n) (w : World) (htab : Lib.TabIs Tryd.prog w "internal/strconv.uint64pow10" .u64 Lib.pow10Tab) : Calls Tryd.prog 22 #[.int .i64 t] w fun e0 w' => e0 = .returned (.string X) ∧ Below w.heap.size w w' := by
  have hle := Tk.own_le t ht9
  rw [hn] at hle
  have HN := Lib.hid (And.intro hn hX)
  clear hn hX
  by_cases h9 : n = 9223372036854775807
  · subst h9
    have HE : Hid (X = ⟨#[110, 101, 118, 101, 114]⟩) := Lib.hid (Tx.bytes_ext (by rw [HN.out.2]; rfl))
    go_enter Tryd.func22, Tryd.ntmps22
    go_wp2_with (go_at_call 37; (with_reducible refine (own_any _ _).mono ?_); rintro e w' ⟨rfl, rfl⟩; rw [HN.out.1])
    go_ret
    exact ⟨by rw [HE.out]; rfl, Below.refl _ _⟩
  · have i1 : ¬ (n : Int) = 9223372036854775807 := by omega
    have i2 : ((n : Int) == 9223372036854775807) = false := by rw [beq_eq_false_iff_ne]; exact i1
    have HE : Hid (⟨(Lib.itoa (n : Int)).toArray⟩ = X) := Lib.hid (Tx.bytes_ext (by
      rw [HN.out.2]
      unfold Tx.text Lib.itoa
      rw [if_neg h9, if_neg (by omega), Int.toNat_natCast]))
    go_enter Tryd.func22, Tryd.ntmps22
    go_wp2_with (first
      | (go_at_call 37; (with_reducible refine (own_any _ _).mono ?_); rintro e w' ⟨rfl, rfl⟩; rw [HN.out.1])
      | (go_at_call 38; (with_reducible refine (Tryd.strconv_FormatInt_10 n (by omega) (by omega) _ htab).mono ?_); rintro e W1 ⟨rfl, k, os, rfl⟩; rw [HE.out]))
    go_ret
    exact ⟨rfl, below_grow6 _ _⟩
end Go.Proofs.YtfhhkmjjifbfeaaDoor
