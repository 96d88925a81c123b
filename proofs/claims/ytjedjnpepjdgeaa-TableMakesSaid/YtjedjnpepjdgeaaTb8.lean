/- Tables: the document's numbers in a state. -/
import Derived.Test.YtjedjnpepjdgeaaTb7
import Derived.Test.YtjedjnpepjdgeaaCsRA
namespace Go.Proofs.Ytjedjnpepjdgeaa
open Go.ChangeShapes Go.WideShapes Go.ChangeAt Go.RowKit
set_option linter.unusedSimpArgs false
set_option linter.unusedVariables false

theorem u_bitnat (X : BitVec 64) (k : Nat) : X.toNat / 2 ^ k % 2 = if X.getLsbD k then 1 else 0 := by
  have h : X.getLsbD k = Nat.testBit X.toNat k := rfl
  rw [h, Nat.testBit_eq_decide_div_mod_eq]
  by_cases e : X.toNat / 2 ^ k % 2 = 1
  · simp [e]
  · have : X.toNat / 2 ^ k % 2 = 0 := by omega
    simp [this]
set_option maxRecDepth 20000 in
set_option maxHeartbeats 2000000 in
theorem r9_in (X : BitVec 64) (x : Int) (hx : (X.toNat : Int) = x) (m : Nat) (hm : m ≤ 1000) (r : Bool) (hr : X.getLsbD m = r) (w : World) :
    Calls Try.prog 80 #[.int .u64 x, .int .i64 m] w fun e w' => e = .returned (.bool r) ∧ w' = w := by
  subst hx
  obtain ⟨N, hN⟩ : ∃ N, X.toNat = N := ⟨_, rfl⟩
  have HH : Hid (N / 2 ^ m % 2 = if r then 1 else 0) := Lib.hid (by rw [← hr, ← hN]; exact u_bitnat X m)
  have HN : Hid (N < 256 ^ 8) := Lib.hid (by
    have := X.isLt
    have e : 256 ^ 8 = 18446744073709551616 := by decide
    omega)
  rw [hN]
  clear hr hN
  go_enter Try.func80, Try.ntmps80
  go_wp2
  go_loopw [0, 1] (fun n i wr => ∃ (k j : Nat), i = .int .i64 k ∧ n = .int .u64 (N / 2 ^ j : Nat) ∧ k + j = m ∧ wr = w) (fun _ i _ => (intOf i).toNat)
  case atStart => exact ⟨m, 0, rfl, by simp, by omega, rfl⟩
  case round =>
    obtain ⟨k, j, rfl, rfl, hkj, rfl⟩ := hrel
    obtain ⟨a, ha⟩ : ∃ a, N / 2 ^ j = a := ⟨_, rfl⟩
    have HA := Lib.hid ha
    have hal : Hid (a < 256 ^ 8) := Lib.hid (by rw [← ha]; exact Nat.lt_of_le_of_lt (Nat.div_le_self _ _) HN.out)
    rw [ha]
    clear ha
    by_cases hk : 0 < k
    · have hk0 : (0 : Int) < (k : Int) := by omega
      have t1 : (a : Int).tdiv 2 = ((a / 2 : Nat) : Int) := tdiv_nat a 2
      obtain ⟨a2, ha2⟩ : ∃ a2, a / 2 = a2 := ⟨_, rfl⟩
      rw [ha2] at t1
      have t2 : IntKind.u64.wrap (a2 : Int) = a2 := nat_u64 a2 (by have := hal.out; omega)
      have w1 : IntKind.i64.wrap ((k : Int) - 1) = (k : Int) - 1 := IntWalk.i64_in _ (by omega)
      have HA2 : Hid (N / 2 ^ (j + 1) = a2) := Lib.hid (by rw [Nat.pow_succ, ← Nat.div_div_eq_div_mul, HA.out, ha2])
      clear ha2
      go_wp2
      refine ⟨?_, ?measure⟩
      case measure => simp [intOf]; omega
      first
        | exact ⟨k - 1, j + 1, by congr 1; omega, by rw [HA2.out], by omega, trivial⟩
        | ((repeat apply Exists.intro); exact ⟨⟨k - 1, j + 1, by congr 1; omega, by rw [HA2.out], by omega, rfl⟩, rfl⟩)
    · obtain rfl : k = 0 := by omega
      have t1 : (a : Int).tmod 2 = ((a % 2 : Nat) : Int) := tmod_nat a 2
      have ht : a % 2 = if r then 1 else 0 := by rw [← HA.out, ← HH.out]; congr 3; omega
      rw [ht] at t1
      cases r
      all_goals
        simp only [Bool.false_eq_true, if_false, if_true] at t1
        go_wp2
        go_ret
        exact ⟨rfl, rfl⟩
theorem mk_lt (f : Nat → Bool) (m : Nat) (hm : m ≤ 63) : (Tb.mk f m).toNat / 2 ^ m = 0 := by
  have h : (Tb.mk f m) >>> m = 0 := by
    apply u_ext
    intro i hi
    rw [BitVec.getLsbD_ushiftRight]
    by_cases e : m + i < 64
    · have hn : ¬ (m + i < m) := by omega
      rw [mk_get _ _ _ e]; simp [hn]
    · rw [BitVec.getLsbD_of_ge _ _ (by omega)]; simp
  have := congrArg BitVec.toNat h
  rw [BitVec.toNat_ushiftRight, Nat.shiftRight_eq_div_pow] at this
  exact this
set_option maxRecDepth 20000 in
set_option maxHeartbeats 2000000 in
theorem r9_pack (f : Nat → Bool) (m : Nat) (hm : m ≤ 63) (g c : Nat) (Y : BitVec 64) (y : Int) (hY : Tb.mk f m = Y) (hy : (Y.toNat : Int) = y) (w : World) (h : Rw w g c (bl f m) 4) :
    Calls Try.prog 69 #[.slice (some ⟨g, 0, none⟩) m c] w fun e w' => e = .returned (.int .u64 y) ∧ w' = w := by
  subst hy
  obtain ⟨N, hN⟩ : ∃ N, Y.toNat = N := ⟨_, rfl⟩
  have HN : Hid (N < 256 ^ 8) := Lib.hid (by
    have := Y.isLt
    have e : 256 ^ 8 = 18446744073709551616 := by decide
    omega)
  have HT : Hid (N / 2 ^ m = 0) := Lib.hid (by rw [← hN, ← hY]; exact mk_lt f m hm)
  have HBt : Hid (∀ k, k < m → N / 2 ^ k % 2 = if f k then 1 else 0) := Lib.hid (fun k hk => by
    rw [← hN, u_bitnat, ← hY, mk_get _ _ _ (by omega)]; simp [hk])
  have HR := Lib.hid h
  rw [hN]
  clear hY hN h
  have wm : IntKind.i64.wrap ((m : Int) - 1) = (m : Int) - 1 := IntWalk.i64_in _ (by omega)
  go_enter Try.func69, Try.ntmps69
  go_wp2
  go_loopw [3, 4] (fun n i wr => ∃ k : Nat, i = .int .i64 ((k : Int) - 1) ∧ n = .int .u64 (N / 2 ^ k : Nat) ∧ k ≤ m ∧ wr = w) (fun _ i _ => (intOf i + 1).toNat)
  case atStart => exact ⟨m, rfl, by rw [HT.out]; rfl, by omega, rfl⟩
  case round =>
    clear wm
    obtain ⟨k, rfl, rfl, hk, rfl⟩ := hrel
    obtain ⟨a, ha⟩ : ∃ a, N / 2 ^ k = a := ⟨_, rfl⟩
    have HA := Lib.hid ha
    rw [ha]
    clear ha
    by_cases hk0 : 0 < k
    · obtain ⟨j, hj1, hj2⟩ : ∃ j, k ≤ j + 1 ∧ j + 1 ≤ k := ⟨k - 1, by omega, by omega⟩
      have ej : (k : Int) - 1 = (j : Int) := by omega
      have j0 : (0 : Int) ≤ (j : Int) := by omega
      obtain ⟨a2, ha2⟩ : ∃ a2, N / 2 ^ j = a2 := ⟨_, rfl⟩
      have hbit := HBt.out j (by omega)
      have hdiv : a2 / 2 = a := by rw [← ha2, ← HA.out, Nat.div_div_eq_div_mul, ← Nat.pow_succ]; congr 2; omega
      rw [ha2] at hbit
      have hal : a2 < 256 ^ 8 := by rw [← ha2]; exact Nat.lt_of_le_of_lt (Nat.div_le_self _ _) HN.out
      have HA2 := Lib.hid ha2
      have cell := HR.out.cell (bl_at f (n := m) (i := j) (by omega))
      have w1 : IntKind.i64.wrap ((j : Int) - 1) = (j : Int) - 1 := IntWalk.i64_in _ (by omega)
      obtain ⟨b, hb⟩ : ∃ b, f j = b := ⟨_, rfl⟩
      rw [hb] at cell hbit
      have jm : j < m := by omega
      clear hb ha2
      cases b with
      | true =>
        rw [if_pos rfl] at hbit
        have t1 : IntKind.u64.wrap (2 * (a : Int)) = ((2 * a : Nat) : Int) := by rw [show (2 * (a : Int)) = ((2 * a : Nat) : Int) by omega]; exact nat_u64 (2 * a) (by omega)
        obtain ⟨d, hd⟩ : ∃ d, 2 * a = d := ⟨_, rfl⟩
        rw [hd] at t1
        have t2 : IntKind.u64.wrap ((d : Int) + 1) = ((a2 : Nat) : Int) := by rw [show ((d : Int) + 1) = ((a2 : Nat) : Int) by omega]; exact nat_u64 a2 (by omega)
        clear hbit hdiv hal hd
        go_wp2
        refine ⟨?_, ?measure⟩
        case measure => simp [intOf]; omega
        first
          | exact ⟨j, rfl, by rw [HA2.out], by omega, rfl⟩
          | exact ⟨j, rfl, by rw [HA2.out], by omega, trivial⟩
          | ((repeat apply Exists.intro); exact ⟨⟨j, rfl, by rw [HA2.out], by omega, rfl⟩, rfl⟩)
      | false =>
        rw [if_neg (by simp)] at hbit
        have t1 : IntKind.u64.wrap (2 * (a : Int)) = ((a2 : Nat) : Int) := by rw [show (2 * (a : Int)) = ((a2 : Nat) : Int) by omega]; exact nat_u64 a2 (by omega)
        clear hbit hdiv hal
        go_wp2
        refine ⟨?_, ?measure⟩
        case measure => simp [intOf]; omega
        first
          | exact ⟨j, rfl, by rw [HA2.out], by omega, rfl⟩
          | exact ⟨j, rfl, by rw [HA2.out], by omega, trivial⟩
          | ((repeat apply Exists.intro); exact ⟨⟨j, rfl, by rw [HA2.out], by omega, rfl⟩, rfl⟩)
    · obtain rfl : k = 0 := by omega
      have he : a = N := by rw [← HA.out]; simp
      subst he
      go_wp2
      go_ret
      exact ⟨rfl, rfl⟩
end Go.Proofs.Ytjedjnpepjdgeaa
