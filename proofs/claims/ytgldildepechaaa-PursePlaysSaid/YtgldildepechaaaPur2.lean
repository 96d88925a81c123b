/- Purses whole, second half: what a gift tells, all that there is, and what is given at once. -/
import Derived.Test.YtgldildepechaaaPur
namespace Go.Proofs.Ytgldildepechaaa
open Go.ChangeShapes Go.WideShapes Go.ChangeAt Go.RowKit
set_option linter.unusedSimpArgs false
set_option linter.unusedVariables false

theorem pu_quantum (b h n : Nat) (q : Int) (V : List Int) (w : World) (u : PU w b h n q V) :
    Calls Try.prog 9 #[.pointer (some ⟨b, 0, none⟩)] w fun e w' => e = .returned (.int .i64 q) ∧ w = w' := by
  have c1 : w.cell? ⟨b, 1, none⟩ = some (.int .i64 q) := u.2.2.2.2.1.cell (i := 1) rfl
  clear u
  go_enter Try.func9, Try.ntmps9
  go_wp2
  go_ret
  exact ⟨rfl, rfl⟩
theorem pu_give_val (b h n : Nat) (q : Int) (V : List Int) (id : Int) (w : World) (u : PU w b h n q V) :
    Calls Try.prog 11 #[.pointer (some ⟨b, 0, none⟩), .int .i64 id] w fun e w' => e = .returned (.int .i64 (pHas (pSet V id (min (pHas V id + q) 2000000000)) id)) ∧ PU w' b h n q (pSet V id (min (pHas V id + q) 2000000000)) ∧ Chg [h] w w' := by
  by_cases hid : id < 0 ∨ (n : Int) ≤ id
  · refine (pu_give_out b h n q V id w u hid).mono ?_
    rintro e w' ⟨rfl, rfl⟩
    have hl := u.2.2.1
    rw [pSet_out (by omega), pHas_out (by omega)]
    exact ⟨rfl, u, Chg.refl _ _⟩
  · obtain ⟨j, rfl⟩ : ∃ j : Nat, id = (j : Int) := ⟨id.toNat, by omega⟩
    have hb := u.bound (j : Int)
    have hl := u.2.2.1
    refine (pu_give_in b h n j q (pHas V (j : Int)) _ w (by omega) u.1.2.2 u.2.1 hb rfl (u.2.2.2.2.1.cell (i := 0) rfl) (u.2.2.2.2.1.cell (i := 1) rfl) (u.row j (by omega)) (u.2.2.2.2.2.free j) u.1.1).mono ?_
    rintro e w' ⟨rfl, rfl⟩
    have h2 := u.2.1
    rw [pHas_set_same (by omega)]
    exact ⟨rfl, u.drew.set j _ (by omega), ((Chg.refl [h] w).drew).set (Or.inl (by simp)) _ _⟩
theorem sum_bound : ∀ (V : List Int), (∀ v ∈ V, 0 ≤ v ∧ v ≤ 2000000000) → 0 ≤ V.sum ∧ V.sum ≤ (V.length : Int) * 2000000000
  | [], _ => by simp
  | x :: V, h => by
    have h1 := sum_bound V fun v hv => h v (by simp [hv])
    have h2 := h x (by simp)
    simp only [List.sum_cons, List.length_cons]
    omega
theorem sum_take (V : List Int) (k : Nat) (hk : k < V.length) : (V.take (k + 1)).sum = (V.take k).sum + V.getD k 0 := by
  rw [List.take_succ_eq_append_getElem hk, List.sum_append]
  simp [List.getD, List.getElem?_eq_getElem hk]
theorem take_bound {V : List Int} (h : ∀ v ∈ V, 0 ≤ v ∧ v ≤ 2000000000) (k : Nat) (hk : k ≤ 1024) : 0 ≤ (V.take k).sum ∧ (V.take k).sum ≤ 2048000000000 := by
  have := sum_bound (V.take k) fun v hv => h v (List.mem_of_mem_take hv)
  have hl : (V.take k).length ≤ k := List.length_take_le _ _
  omega
set_option maxHeartbeats 1000000 in
theorem pu_all (b h n : Nat) (q : Int) (V : List Int) (w : World) (u : PU w b h n q V) :
    Calls Try.prog 18 #[.pointer (some ⟨b, 0, none⟩)] w fun e w' => e = .returned (.int .i64 V.sum) ∧ w = w' := by
  have c0 := u.2.2.2.2.1.cell (i := 0) rfl
  have hn := u.1.2
  have hl := u.2.2.1
  have HU := Lib.hid u
  clear u
  go_enter Try.func18, Try.ntmps18
  go_wp2
  go_loop [3, 13] (fun s i => ∃ (k : Nat) (z : Int), i = .int .i64 k ∧ s = .int .i64 z ∧ k ≤ n ∧ Hid (z = (V.take k).sum)) (fun _ i => n - (intOf i).toNat)
  case atStart => exact ⟨0, 0, rfl, rfl, by omega, Lib.hid (by simp)⟩
  case round =>
    obtain ⟨k, z, rfl, rfl, hk, HZ⟩ := hrel
    have hzb := take_bound HU.out.2.2.2.1 k (by omega)
    rw [← HZ.out] at hzb
    by_cases hkn : k < n
    · have d := HU.out.row k hkn
      obtain ⟨v, hv⟩ : ∃ v, pHas V (k : Int) = v := ⟨_, rfl⟩
      have hvb := HU.out.bound (k : Int)
      rw [hv] at d hvb
      have i1 : (k : Int) < (n : Int) := by omega
      have i0 : (0 : Int) ≤ (k : Int) := by omega
      have s1 : IntKind.i64.wrap (z + v) = z + v := IntWalk.i64_in _ (by omega)
      have HZ2 : Hid (z + v = (V.take (k + 1)).sum) := Lib.hid (by
        rw [sum_take V k (by omega), HZ.out, ← hv]
        unfold pHas
        rw [if_pos (by omega), Int.toNat_natCast])
      clear hv
      go_wp2
      go_round
      case rel => exact ⟨k + 1, z + v, by go_num, rfl, by omega, HZ2⟩
      case measure => simp [intOf]; omega
    · obtain rfl : k = n := by omega
      have HV : Hid (z = V.sum) := Lib.hid (by rw [HZ.out, List.take_of_length_le (by omega)])
      go_wp2
      go_ret
      exact ⟨Pur.ret_i64 HV.out, rfl⟩
end Go.Proofs.Ytgldildepechaaa
