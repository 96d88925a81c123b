/- What the document's own answer for a ring comes to (package reparteeref03): a text, read in the text's order. -/
import Derived.Test.YtbgheljihjajdaaRing4
namespace Go.Proofs.Ytbgheljihjajdaa
open Go.ChangeShapes Go.WideShapes Go.ChangeAt Go.RowKit
set_option linter.unusedSimpArgs false
set_option linter.unusedVariables false

def clampI (x a b : Int) : Int := if x < a then a else if b < x then b else x
theorem within_any (n a m : Int) (k : Int) (hk : clampI n a m = k) (w : World) : Calls Try.prog 23 #[.int .i64 n, .int .i64 a, .int .i64 m] w fun e w' => e = .returned (.int .i64 k) ∧ w = w' := by
  subst hk
  by_cases h1 : n < a
  · go_enter Try.func23, Try.ntmps23
    go_wp2
    go_ret
    exact ⟨ret_i64 (by unfold clampI; rw [if_pos (by omega)]), rfl⟩
  · by_cases h2 : m < n
    · go_enter Try.func23, Try.ntmps23
      go_wp2
      go_ret
      exact ⟨ret_i64 (by unfold clampI; rw [if_neg (by omega), if_pos (by omega)]), rfl⟩
    · go_enter Try.func23, Try.ntmps23
      go_wp2
      go_ret
      exact ⟨ret_i64 (by unfold clampI; rw [if_neg (by omega), if_neg (by omega)]), rfl⟩
theorem cut_any (s : ByteArray) (hs : s.size ≤ 9223372036854775807) (k : Nat) (hk : k ≤ 1000) (w : World) :
    Calls Try.prog 10 #[.string s, .int .i64 k] w fun e w' => e = .returned (.string (s.extract 0 k)) ∧ w = w' := by
  by_cases h : (k : Int) < (s.size : Int)
  · have g1 : (0 : Int) ≤ (k : Int) := by omega
    have g2 : (k : Int) ≤ (s.size : Int) := by omega
    go_enter Try.func10, Try.ntmps10
    go_wp2
    go_ret
    exact ⟨rfl, rfl⟩
  · have hx : Hid (s = s.extract 0 k) := by
      rw [Hid]; apply ByteArray.ext; apply Array.ext'; rw [ByteArray.data_extract, Array.toList_extract, List.extract_eq_take_drop, List.drop_zero, List.take_of_length_le (by simp; omega)]
    go_enter Try.func10, Try.ntmps10
    go_wp2
    go_ret
    exact ⟨ret_str hx.out, rfl⟩
set_option maxHeartbeats 600000 in
theorem ref_new (x : Int) (n : Nat) (hn : clampI x 1 4096 = n) (w : World) :
    Calls Try.prog 8 #[.int .i64 x] w fun r w' => r = .returned (.agg #[.string ⟨#[]⟩, .int .i64 n]) ∧ Below w.heap.size w w' := by
  have HK := Lib.hid hn
  clear hn
  go_enter Try.func8, Try.ntmps8
  go_wp2_with (go_at_call 23; refine (within_any _ _ _ _ HK.out _).mono ?_; rintro e w' ⟨rfl, rfl⟩)
  exact bodyPost_ret (v := .agg #[.string ⟨#[]⟩, .int .i64 n]) (by simp [results, Try.results8, go_sem]) rfl ⟨rfl, by repeat (first | exact Below.refl _ _ | refine Below.drew ?_ | refine Below.alloc ?_ (by simp) _ | refine Below.setCell ?_ (by simp) _ | refine below_drewN ?_ _)⟩
set_option maxHeartbeats 600000 in
theorem ref_put (S s : ByteArray) (M m : Nat) (w : World) (hM : M ≤ 4096) (hS : S.size ≤ M) (hs : s.size ≤ 100000) (hm : min s.size (M - S.size) = m) :
    Calls Try.prog 11 #[.agg #[.string S, .int .i64 M], .string s] w fun r w' => r = .returned (.tuple #[.agg #[.string (S ++ s.extract 0 m), .int .i64 M], .int .i64 m]) ∧ Below w.heap.size w w' := by
  have HK : Hid (clampI (s.size : Int) 0 ((M : Int) - (S.size : Int)) = (m : Int)) := by unfold clampI; rw [Hid]; split <;> (try split) <;> omega
  have i1 : (0 : Int) ≤ (m : Int) := by omega
  have i2 : (m : Int) ≤ (s.size : Int) := by omega
  clear hm
  go_enter Try.func11, Try.ntmps11
  go_wp2_with (go_at_call 23; refine (within_any _ _ _ _ HK.out _).mono ?_; rintro e w' ⟨rfl, rfl⟩)
  go_region
  go_wp2
  exact bodyPost_ret (v := .tuple #[.agg #[.string (S ++ s.extract 0 m), .int .i64 M], .int .i64 m]) (by simp [results, Try.results11, go_sem]) rfl ⟨rfl, by repeat (first | exact Below.refl _ _ | refine Below.drew ?_ | refine Below.alloc ?_ (by simp) _ | refine Below.setCell ?_ (by simp) _ | refine below_drewN ?_ _)⟩
set_option maxHeartbeats 600000 in
theorem ref_take (S : ByteArray) (M : Int) (k : Int) (m : Nat) (w : World) (hS : S.size ≤ 100000) (hm : clN k S.size = m) :
    Calls Try.prog 13 #[.agg #[.string S, .int .i64 M], .int .i64 k] w fun r w' => r = .returned (.tuple #[.agg #[.string (S.extract m S.size), .int .i64 M], .string (S.extract 0 m)]) ∧ Below w.heap.size w w' := by
  have hle := clN_le k S.size
  have HK : Hid (clampI k 0 (S.size : Int) = (m : Int)) := by
    rw [← hm]
    unfold clampI clN; rw [Hid]; split <;> (try split) <;> omega
  rw [hm] at hle
  have i1 : (0 : Int) ≤ (m : Int) := by omega
  have i2 : (m : Int) ≤ (S.size : Int) := by omega
  clear hm
  go_enter Try.func13, Try.ntmps13
  go_wp2_with (go_at_call 23; refine (within_any _ _ _ _ HK.out _).mono ?_; rintro e w' ⟨rfl, rfl⟩)
  exact bodyPost_ret (v := .tuple #[.agg #[.string (S.extract m S.size), .int .i64 M], .string (S.extract 0 m)]) (by simp [results, Try.results13, go_sem]) rfl ⟨rfl, by repeat (first | exact Below.refl _ _ | refine Below.drew ?_ | refine Below.alloc ?_ (by simp) _ | refine Below.setCell ?_ (by simp) _ | refine below_drewN ?_ _)⟩
set_option maxHeartbeats 600000 in
theorem ref_peek (S : ByteArray) (M : Int) (a k : Int) (w : World) (hS : S.size ≤ 100000) :
    Calls Try.prog 24 #[.agg #[.string S, .int .i64 M], .int .i64 a, .int .i64 k] w fun r w' => r = .returned (.string (pk S a k)) ∧ Below w.heap.size w w' := by
  unfold pk
  by_cases h1 : a < 0
  · rw [if_pos (by omega)]
    go_enter Try.func24, Try.ntmps24
    go_wp2
    go_ret
    exact ⟨rfl, (Below.refl _ _).alloc (Nat.le_refl _) _⟩
  · obtain ⟨j, rfl⟩ : ∃ j : Nat, a = (j : Int) := ⟨a.toNat, by omega⟩
    by_cases h2 : (S.size : Int) < (j : Int)
    · rw [if_pos (by omega)]
      go_enter Try.func24, Try.ntmps24
      go_wp2
      go_ret
      exact ⟨rfl, (Below.refl _ _).alloc (Nat.le_refl _) _⟩
    · obtain ⟨m, hm⟩ : ∃ m, clN k (S.size - j) = m := ⟨_, rfl⟩
      have hle := clN_le k (S.size - j)
      have HV : Hid ((if (j : Int) < 0 ∨ (S.size : Int) ≤ (j : Int) ∨ k ≤ 0 then (⟨#[]⟩ : ByteArray) else S.extract (j : Int).toNat ((j : Int).toNat + min k.toNat (S.size - (j : Int).toNat))) = S.extract j (j + m)) := by
        rw [Hid, ← hm]
        unfold clN
        split
        · have : (if k < 0 then 0 else min k.toNat (S.size - j)) = 0 := by split <;> omega
          rw [this]
          exact (ByteArray.ext (Array.eq_empty_of_size_eq_zero (by simp))).symm
        · rw [if_neg (by omega), Int.toNat_natCast]
      rw [HV.out]
      have HK : Hid (clampI k 0 ((S.size : Int) - (j : Int)) = (m : Int)) := by
        rw [← hm]
        unfold clampI clN; rw [Hid]; split <;> (try split) <;> omega
      rw [hm] at hle
      have hsum : IntKind.i64.wrap ((j : Int) + (m : Int)) = (j : Int) + (m : Int) := IntWalk.i64_in _ (by omega)
      have hdif : IntKind.i64.wrap ((S.size : Int) - (j : Int)) = (S.size : Int) - (j : Int) := IntWalk.i64_in _ (by omega)
      have htn : ((j : Int) + (m : Int)).toNat = j + m := by omega
      have i0 : (0 : Int) ≤ (j : Int) := by omega
      have i3 : (0 : Int) ≤ (j : Int) + (m : Int) := by omega
      have i1 : (j : Int) ≤ (j : Int) + (m : Int) := by omega
      have i2 : (j : Int) + (m : Int) ≤ (S.size : Int) := by omega
      clear hm hle h1 HV
      go_enter Try.func24, Try.ntmps24
      go_wp2
      go_quiet ((go_at_call 23; exact Calls.quiet_of_same ((within_any _ _ _ _ HK.out _).mono fun e w' ⟨he, hw⟩ => ⟨he, hw.symm⟩)))
      go_wp2
      go_ret
      exact ⟨rfl, below_drewN ((Below.refl _ _).alloc (Nat.le_refl _) _) _⟩
end Go.Proofs.Ytbgheljihjajdaa
