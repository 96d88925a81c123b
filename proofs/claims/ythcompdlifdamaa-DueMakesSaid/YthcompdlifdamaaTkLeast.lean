/- Contracts of 'the least of some ticks' over a slice whose cells are known, and over an empty one: the program's and the document's own. -/
import Derived.Test.YthcompdlifdamaaTkWalks
namespace Go.Proofs.Ythcompdlifdamaa
open Go.ChangeShapes Go.WideShapes Go.ChangeAt Go.RowKit
set_option linter.unusedSimpArgs false
set_option linter.unusedVariables false

theorem least_any (b off n c : Nat) (zs : List Int) (hn : zs.length = n) (hm : n ≤ 9223372036854775807) (hz : ∀ i, i < n → zs.getD i 0 ≤ 9223372036854775807) (w : World)
    (hc : ∀ i, i < n → w.cell? ⟨b, off + i, none⟩ = some (.int .i64 (zs.getD i 0))) :
    Calls Try.prog 23 #[.slice (some ⟨b, off, none⟩) n c] w fun e w' => e = .returned (.int .i64 (Tk.least zs)) ∧ w = w' := by
  have HC := Lib.hid hc
  have HN := Lib.hid hn
  have HZ := Lib.hid hz
  clear hc hn hz
  go_enter Try.func23, Try.ntmps23
  go_wp2
  go_loop [3, 8] (fun u v => ∃ k : Nat, k ≤ n ∧ v = .int .i64 k ∧ u = .int .i64 (Tk.least (zs.take k))) (fun _ v => n - (intOf v).toNat)
  case atStart => exact ⟨0, by omega, rfl, rfl⟩
  case round =>
    obtain ⟨k, hk, rfl, rfl⟩ := hrel
    have hb := Tk.least_bd (zs.take k)
    by_cases hlt : k < n
    · have hcell := HC.out k hlt
      have HS := Lib.hid (Tk.take_succ_getD zs k (by rw [HN.out]; exact hlt))
      go_wp2_with (go_at_call 25; refine (own_any _ _).mono ?_; rintro e w' ⟨rfl, rfl⟩)
      all_goals
        go_round
        case rel =>
          refine ⟨k + 1, by omega, by go_num, ?_⟩
          rw [HS.out, Tk.least_snoc]
          unfold Tk.minI
          congr 1
          simp only [List.getD_eq_getElem?_getD] at *
          omega
        case measure => simp [intOf]; omega
    · have hk' : k = n := by omega
      have HE : Hid (Tk.least (zs.take k) = Tk.least zs) := by rw [hk', ← HN.out, List.take_length]; exact rfl
      clear hk'
      go_wp2
      go_ret
      exact ⟨ret_i64 HE.out, rfl⟩
theorem least_nil (a : Option Addr) (c : Nat) (w : World) :
    Calls Try.prog 23 #[.slice a 0 c] w fun e w' => e = .returned (.int .i64 (Tk.least [])) ∧ w = w' := by
  go_enter Try.func23, Try.ntmps23
  go_wp2
  go_rounds 1
  go_ret
  exact ⟨rfl, rfl⟩
theorem rleast_any (b off n c : Nat) (zs : List Int) (hn : zs.length = n) (hm : n ≤ 9223372036854775807) (hz : ∀ i, i < n → zs.getD i 0 ≤ 9223372036854775807) (w : World)
    (hc : ∀ i, i < n → w.cell? ⟨b, off + i, none⟩ = some (.int .i64 (zs.getD i 0))) :
    Calls Try.prog 24 #[.slice (some ⟨b, off, none⟩) n c] w fun e w' => e = .returned (.int .i64 (Tk.least zs)) ∧ w = w' := by
  have HC := Lib.hid hc
  have HN := Lib.hid hn
  have HZ := Lib.hid hz
  clear hc hn hz
  go_enter Try.func24, Try.ntmps24
  go_wp2
  go_loop [3, 4] (fun u v => ∃ k : Nat, k ≤ n ∧ v = .int .i64 k ∧ u = .int .i64 (Tk.least (zs.take k))) (fun _ v => n - (intOf v).toNat)
  case atStart => exact ⟨0, by omega, rfl, rfl⟩
  case round =>
    obtain ⟨k, hk, rfl, rfl⟩ := hrel
    have hb := Tk.least_bd (zs.take k)
    by_cases hlt : k < n
    · have hcell := HC.out k hlt
      have HS := Lib.hid (Tk.take_succ_getD zs k (by rw [HN.out]; exact hlt))
      go_wp2_with (go_at_call 27; refine (rown_any _ _).mono ?_; rintro e w' ⟨rfl, rfl⟩)
      all_goals
        go_round
        case rel =>
          refine ⟨k + 1, by omega, by go_num, ?_⟩
          rw [HS.out, Tk.least_snoc]
          unfold Tk.minI
          congr 1
          simp only [List.getD_eq_getElem?_getD] at *
          omega
        case measure => simp [intOf]; omega
    · have hk' : k = n := by omega
      have HE : Hid (Tk.least (zs.take k) = Tk.least zs) := by rw [hk', ← HN.out, List.take_length]; exact rfl
      clear hk'
      go_wp2
      go_ret
      exact ⟨ret_i64 HE.out, rfl⟩
theorem rleast_nil (a : Option Addr) (c : Nat) (w : World) :
    Calls Try.prog 24 #[.slice a 0 c] w fun e w' => e = .returned (.int .i64 (Tk.least [])) ∧ w = w' := by
  go_enter Try.func24, Try.ntmps24
  go_wp2
  go_rounds 1
  go_ret
  exact ⟨rfl, rfl⟩
end Go.Proofs.Ythcompdlifdamaa
