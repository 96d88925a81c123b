/- P26.2: for every quantum, price and number: behind as many gifts as a price takes it can be paid, and not ahead of that. No condition. -/
import Derived.Test.YtgldildepechaaaOpen
import Derived.WalkKit
import Derived.ProofKit
import Derived.OpenShut
import Derived.Test.YtgldildepechaaaPurseWalks
namespace Go.Proofs.Ytgldildepechaaa.purseEnough
open Go.Joins Go.ChangeShapes Go.WideShapes Go.ChangeAt Go.RowKit Go.Deep
open Go.ChangeMaps (open_string)
set_option linter.unusedSimpArgs false
set_option linter.unusedVariables false

theorem clampI_bd (x a b : Int) (h : a ≤ b) : a ≤ clampI x a b ∧ clampI x a b ≤ b := by unfold clampI; split <;> first | omega | (split <;> omega)
theorem mul_bd (k : Nat) (q : Int) (hk : k ≤ 41) (hq : 1 ≤ q ∧ q ≤ 1000000) : 0 ≤ (k : Int) * q ∧ (k : Int) * q ≤ 41000000 := by
  have h1 : 0 ≤ (k : Int) * q := Int.mul_nonneg (by omega) (by omega)
  have h2 : (k : Int) * q ≤ 41 * 1000000 := Int.mul_le_mul (by omega) (by omega) (by omega) (by omega)
  omega
theorem less_of (k : Nat) (p q : Int) (hq : 1 ≤ q) (hp : p ≤ 40 * q) (h : (k : Int) * q < p) : k + 1 ≤ 40 := by
  by_cases hk : k + 1 ≤ 40
  · exact hk
  · have h2 : 40 * q ≤ (k : Int) * q := Int.mul_le_mul_of_nonneg_right (by omega) (by omega)
    omega
set_option maxHeartbeats 2000000 in

theorem walk (a0 : Int) (a1 : Int) (a2 : Int) (w : World) (w0 : (Lit.int .i64 a0).wf = true) (w1 : (Lit.int .i64 a1).wf = true) (w2 : (Lit.int .u8 a2).wf = true) :
    Calls Try.prog 4 #[.int .i64 a0, .int .i64 a1, .int .u8 a2] w fun e w' => e = .returned (.bool true) ∧ Below w.heap.size w w' := by
  have bi : 0 ≤ a2 ∧ a2 ≤ 255 := bounds_u8 w2
  have hqb := clampI_bd a0 1 1000000 (by omega)
  obtain ⟨q, hq⟩ : ∃ q, clampI a0 1 1000000 = q := ⟨_, rfl⟩
  rw [hq] at hqb
  have hpb := clampI_bd a1 0 (40 * q) (by omega)
  obtain ⟨p, hp⟩ : ∃ p, clampI a1 0 (40 * q) = p := ⟨_, rfl⟩
  rw [hp] at hpb
  obtain ⟨id, hid⟩ : ∃ id : Nat, a2 % 200 = (id : Int) := ⟨(a2 % 200).toNat, by omega⟩
  have hid2 : id < 200 := by omega
  go_enter Try.func4, Try.ntmps4
  go_wp2_with fail
  refine (new_any 200 a0 w (by omega)).mono ?_
  rintro e w1 ⟨b, rfl, hu, B1⟩
  have P1 := Lib.hid (hu id hid2)
  rw [hq] at P1
  have HB1 := Lib.hid B1
  clear hu B1
  go_wp2_with (go_at_call 20; refine (within_any _ _ _ _ (by omega)).mono ?_; rintro e w' ⟨rfl, rfl⟩)
  go_loopw [8] (fun i wr => ∃ k : Nat, i = .int .i64 k ∧ k ≤ 40 ∧ (k = 0 ∨ (k : Int) * q - q < p) ∧ Hid (UAt wr b w.heap.size 200 q id ((k : Int) * q)) ∧ Hid (Below w.heap.size w wr)) (fun i _ => 41 - (intOf i).toNat)
  case atStart => exact ⟨0, rfl, by omega, Or.inl rfl, by simpa using P1, HB1⟩
  case round =>
    clear P1 HB1
    obtain ⟨k, rfl, hk, hinv, HP, HB⟩ := hrel
    have m1 := mul_bd k q (by omega) hqb
    have m2 := mul_bd (k + 1) q (by omega) hqb
    have hm2 : ((k + 1 : Nat) : Int) * q = (k : Int) * q + q := by rw [Int.natCast_add, Int.add_mul]; simp
    rw [hm2] at m2
    have HM := Lib.hid hm2
    clear hm2
    have hmul : ((k : Int) + 1) * q = (k : Int) * q + q := by rw [Int.add_mul, Int.one_mul]
    have hmul2 : ((k : Int) - 1) * q = (k : Int) * q - q := by rw [Int.sub_mul, Int.one_mul]
    by_cases hpk : p ≤ (k : Int) * q
    · go_wp2_with fail
      refine (pay_any b w.heap.size 200 id q ((k : Int) * q) p _ hid2 (by omega) (by omega) (by omega) HP.out).mono ?_
      rintro e w2 ⟨rfl, p2, u2⟩
      rw [if_pos hpk] at p2
      rw [show decide (p ≤ (k : Int) * q) = true by simp; omega]
      have HB2 := Lib.hid (u2 w.heap.size w (Nat.le_refl _) HB.out)
      have HP2 := Lib.hid p2
      clear u2 p2 HP HB
      by_cases hk0 : k = 0
      · have hb0 : ((k : Int) == 0) = true := by simp; omega
        have hk0' := Lib.hid hk0
        clear hk0
        go_wp2_with (first | (go_at_call 17; refine (has_any b w.heap.size 200 id q ((k : Int) * q - p) _ hid2 (by omega) HP2.out).mono ?_; rintro e w3 ⟨rfl, p3, u3⟩) | (go_at_call 19; refine (lives_any _).mono ?_; rintro e w4 ⟨rfl, hb⟩))
        go_ret
        exact ⟨rfl, Below.trans (u3 w.heap.size w (Nat.le_refl _) HB2.out) (Below.mono (by assumption) (u3 w.heap.size w (Nat.le_refl _) HB2.out).size)⟩
      · have hb0 : ((k : Int) == 0) = false := by simp; omega
        have hlt : (k : Int) * q - q < p := by omega
        go_wp2_with (first | (go_at_call 17; refine (has_any b w.heap.size 200 id q ((k : Int) * q - p) _ hid2 (by omega) HP2.out).mono ?_; rintro e w3 ⟨rfl, p3, u3⟩) | (go_at_call 19; refine (lives_any _).mono ?_; rintro e w4 ⟨rfl, hb⟩))
        go_ret
        exact ⟨rfl, Below.trans (u3 w.heap.size w (Nat.le_refl _) HB2.out) (Below.mono (by assumption) (u3 w.heap.size w (Nat.le_refl _) HB2.out).size)⟩
    · have hkp : (k : Int) * q < p := by omega
      have hl := less_of k p q hqb.1 hpb.2 hkp
      go_wp2_with fail
      refine (pay_any b w.heap.size 200 id q ((k : Int) * q) p _ hid2 (by omega) (by omega) (by omega) HP.out).mono ?_
      rintro e w2 ⟨rfl, p2, u2⟩
      rw [if_neg (show ¬ p ≤ (k : Int) * q by omega)] at p2
      rw [show decide (p ≤ (k : Int) * q) = false by simp; omega]
      have HB2 := Lib.hid (u2 w.heap.size w (Nat.le_refl _) HB.out)
      have HP2 := Lib.hid p2
      clear u2 p2 HP HB
      go_wp2_with (go_at_call 11; refine (give_any b w.heap.size 200 id q ((k : Int) * q) _ hid2 (by omega) (by omega) (by omega) (by omega) HP2.out).mono ?_; rintro e w3 ⟨rfl, p3, u3⟩)
      go_roundw
      case rel => exact ⟨k + 1, by go_num, by omega, Or.inr (by rw [HM.out]; omega), by rw [HM.out]; exact p3, u3 w.heap.size w (Nat.le_refl _) HB2.out⟩
      case measure => simp [intOf]; omega

set_option maxRecDepth 100000 in
theorem lifted (os : Os) (started : os.Started) (H : Type) (enc : TypeId × Value → H) :
    ReturnsInHanded {} Try.checked os 4 .any (Rows.purseEnoughSpec.pre6 enc Try.prog Try.f4 Rows.purseEnoughRow.domain false) (Rows.purseEnoughSpec.post enc Try.prog Try.f4 false true false false) := by
  refine returnsInHanded_of_change (C := Try.checked) ownKn started (by kernel_rfl) Try.func4
    (ChangeSpec.witness6 (enc := enc) (C := Try.checked) false ⟨#[], #[.int .i64 0, .int .i64 0, .int .u8 0], []⟩ 8 (by kernel_rfl) (by kernel_rfl) (by kernel_rfl) (by kernel_rfl)) ?_
  intro W base args ds gs before hval0 hW hcnd _
  have hval : ∀ (j : Nat) t v, Try.f4.params[j]? = some t → args[j]? = some v → Value.okWide Try.prog W .any base t v := hval0
  have hW' := hW
  obtain ⟨p, q, hA0, hV, rfl, hfz, hnd⟩ := hW
  have hA : DataW.TrodAll enc Try.prog W 0 (fun _ => true) true Try.f4.params.toList args.toList ds p := hA0
  rw [Try.params4] at hA hval
  obtain ⟨v0, vs0, d0, ds0, p0, q0, hargs, rfl, rfl, h0, r0⟩ := trodAll_cons hA
  obtain ⟨v1, vs1, d1, ds1, p1, q1, rfl, rfl, rfl, h1, r1⟩ := trodAll_cons r0
  obtain ⟨v2, vs2, d2, ds2, p2, q2, rfl, rfl, rfl, h2, r2⟩ := trodAll_cons r1
  obtain ⟨rfl, rfl, rfl⟩ := trodAll_nil r2
  obtain rfl : args = #[v0, v1, v2] := by cases args; simp_all
  obtain ⟨rfl, rfl⟩ := trodVars_none hV
  have k0 := h0
  have lt0 : ∀ x ∈ p0, x.block < W.heap.size := by obtain ⟨m, hm⟩ := k0; exact DataW.trod_lt m _ _ _ hm
  obtain ⟨a0, rfl, rfl, rfl, w0⟩ := open_int Try.underlying3 (hval 0 3 v0 rfl rfl) h0
  have k1 := h1
  have lt1 : ∀ x ∈ p1, x.block < W.heap.size := by obtain ⟨m, hm⟩ := k1; exact DataW.trod_lt m _ _ _ hm
  obtain ⟨a1, rfl, rfl, rfl, w1⟩ := open_int Try.underlying3 (hval 1 3 v1 rfl rfl) h1
  have k2 := h2
  have lt2 : ∀ x ∈ p2, x.block < W.heap.size := by obtain ⟨m, hm⟩ := k2; exact DataW.trod_lt m _ _ _ hm
  obtain ⟨a2, rfl, rfl, rfl, w2⟩ := open_int Try.underlying5 (hval 2 5 v2 rfl rfl) h2
  clear hA0 hval0
  refine (walk a0 a1 a2 W w0 w1 w2).mono fun e W' ⟨he, bel⟩ => ?_
  subst he
  exact ⟨_, rfl, _, _, _, [], _, [], hW', trodAll_mk1 (shut_bool Try.underlying4 _), (trodAll_cons_mk (Below.trod laidOut (by kernel_rfl) (of_decide_eq_true (by kernel_rfl)) k0 bel lt0) (trodAll_cons_mk (Below.trod laidOut (by kernel_rfl) (of_decide_eq_true (by kernel_rfl)) k1 bel lt1) (trodAll_cons_mk (Below.trod laidOut (by kernel_rfl) (of_decide_eq_true (by kernel_rfl)) k2 bel lt2) trodAll_mk0))), rfl, bel.frame _, fun h => by cases h⟩

theorem over : Rows.purseEnoughRow.holds Try.pinned (OpenSpec.ofChange Rows.purseEnoughSpec) :=
  OpenClaim.holds_of_wide 4 Try.f4 rfl rfl rfl rfl rfl rfl rfl ⟨rfl, rfl, rfl, rfl, rfl⟩ rfl rfl rfl rfl rfl (by kernel_rfl) Try.func4 (by kernel_rfl)
    (of_decide_eq_true (by kernel_rfl)) (by unfold Func.isWrapper; first | (rw [if_pos (by decide +kernel)]; kernel_rfl) | (rw [if_neg (by decide +kernel)]; exact ⟨rfl, rfl⟩))
    (fun os started H enc _ => lifted os started H enc)

/-- The statement. -/
theorem proved : Rows.PurseEnoughSaid := over
#print axioms proved
end Go.Proofs.Ytgldildepechaaa.purseEnough
