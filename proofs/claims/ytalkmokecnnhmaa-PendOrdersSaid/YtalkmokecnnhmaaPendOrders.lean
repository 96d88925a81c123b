/- P20.3: for every text and every pieces: what is taken is the text from its beginning on, and no byte is lost. No condition. -/
import Derived.Test.YtalkmokecnnhmaaOpen
import Derived.WalkKit
import Derived.ProofKit
import Derived.OpenShut
import Derived.Test.YtalkmokecnnhmaaPendWalks
namespace Go.Proofs.Ytalkmokecnnhmaa.pendOrders
open Go.Joins Go.ChangeShapes Go.WideShapes Go.ChangeAt Go.RowKit Go.Deep
open Go.ChangeMaps (open_string)
set_option linter.unusedSimpArgs false
set_option linter.unusedVariables false

theorem cut_any (s : ByteArray) (hs : s.size ≤ 9223372036854775807) (w : World) :
    Calls Try.prog 8 #[.string s, .int .i64 30] w fun e w' => ∃ T : ByteArray, T.size ≤ 30 ∧ e = .returned (.string T) ∧ w = w' := by
  by_cases h : 30 < s.size
  · go_enter Try.func8, Try.ntmps8
    go_wp2
    go_ret
    exact ⟨s.extract 0 30, by rw [ByteArray.size_extract]; omega, rfl, rfl⟩
  · go_enter Try.func8, Try.ntmps8
    go_wp2
    go_ret
    exact ⟨s, by omega, rfl, rfl⟩
theorem cut_on (T : ByteArray) (s j : Nat) (h : s ≤ s + j) : T.extract 0 s ++ T.extract s (s + j) = T.extract 0 (s + j) := by
  rw [ByteArray.extract_append_extract]; congr 1 <;> omega
theorem cut_all (T : ByteArray) : T.extract 0 T.size = T := by simp
theorem cut_size (T : ByteArray) (s : Nat) (h : s ≤ T.size) : (T.extract 0 s).size = s := by rw [ByteArray.size_extract]; omega
theorem load_ex (b : Nat) (o : Int) (T : ByteArray) (s l t : Nat) (w : World) (ho : 1 ≤ o ∧ o ≤ 4096) (hT : T.size ≤ 1000000) (hs : s + l ≤ T.size) (h : PAt w b o T s l t) :
    Calls Try.prog 12 #[.pointer (some ⟨b, 0, none⟩)] w fun e w' => ∃ m : Int, e = .returned (.int .i64 m) ∧ PAt w' b o T s (ldI o T.size s l) t ∧ Upd b w w' :=
  (load_any b o T s l t w ho hT hs h).mono fun _ _ ⟨he, hp, hu⟩ => ⟨_, he, hp, hu⟩
set_option maxHeartbeats 2000000 in

theorem walk (a0 : Int) (a1 : ByteArray) (a2 : Option Addr) (len2 cap2 : Nat) (z2 : List Int) (w : World) (w0 : (Lit.int .u8 a0).wf = true) (w1 : a1.size ≤ maxLen) (w2 : IsRow .i64 w a2 len2 cap2 z2) :
    Calls Try.prog 4 #[.int .u8 a0, .string a1, .slice a2 len2 cap2] w fun e w' => e = .returned (.bool true) ∧ Below w.heap.size w w' := by
  have b0 : 0 ≤ a0 ∧ a0 ≤ 255 := bounds_u8 w0
  obtain ⟨hzl, hlc, hcm, hnil, hwz, hcell⟩ := w2
  unfold maxLen at hcm w1
  have HZL := Lib.hid hzl
  have HNIL := Lib.hid hnil
  have HWZ := Lib.hid hwz
  have HCELL := Lib.hid hcell
  clear hzl hnil hwz hcell
  have m9 : 0 ≤ a0 % 9 ∧ a0 % 9 ≤ 8 := by omega
  go_enter Try.func4, Try.ntmps4
  go_wp2_with (first | (go_at_call 6; go_in) | (go_at_call 9; go_in) | (go_at_call 8; refine (cut_any _ (by omega) _).mono ?_; rintro e w' ⟨T, hT, rfl, rfl⟩))
  have HP0 : Hid (PAt (w.alloc (Obj.cells #[Value.int IntKind.i64 (1 + a0 % 9), Value.string T, Value.int IntKind.i64 0, Value.int IntKind.i64 0, Value.int IntKind.i64 0] 48)) w.heap.size (1 + a0 % 9) T 0 0 0) :=
    ⟨by simp [go_sem], by simp [go_sem], by simp [go_sem], by simp [go_sem], by simp [go_sem], by simp [go_sem], by simp [go_sem], by simp [go_sem]⟩
  have HB0 : Hid (Below w.heap.size w (w.alloc (Obj.cells #[Value.int IntKind.i64 (1 + a0 % 9), Value.string T, Value.int IntKind.i64 0, Value.int IntKind.i64 0, Value.int IntKind.i64 0] 48))) := Lib.hid ((Below.refl _ _).alloc (Nat.le_refl _) _)
  revert HP0 HB0
  generalize (w.alloc (Obj.cells #[Value.int IntKind.i64 (1 + a0 % 9), Value.string T, Value.int IntKind.i64 0, Value.int IntKind.i64 0, Value.int IntKind.i64 0] 48)) = W1
  intro HP0 HB0
  go_loopw [8, 9] (fun g i wr => ∃ k s l t : Nat, k ≤ 40 ∧ k ≤ len2 ∧ i = .int .i64 k ∧ g = .string (T.extract 0 s) ∧ s + l ≤ T.size ∧ t ≤ k ∧ Hid (PAt wr w.heap.size (1 + a0 % 9) T s l t) ∧ Hid (Below w.heap.size w wr)) (fun _ i _ => 40 - (intOf i).toNat)
  case atStart => exact ⟨0, 0, 0, 0, by omega, by omega, rfl, by rw [extract_zero]; rfl, by omega, by omega, HP0, HB0⟩
  case round =>
    clear HP0 HB0
    obtain ⟨k, s, l, t, hk, hkl, rfl, rfl, hsl, htk, HP, HB⟩ := hrel
    have HQ : True := trivial
    by_cases hlt : k < len2
    · by_cases h40 : k < 40
      · obtain ⟨bb, off, hab, hbl, hcl⟩ := HCELL.out (by omega)
        subst hab
        have HCL := Lib.hid hcl
        clear hcl
        go_wp2_with fail
        refine (load_ex w.heap.size (1 + a0 % 9) T s l t _ (by omega) (by omega) hsl HP.out).mono ?_
        rintro e w1 ⟨m, rfl, p1, u1⟩
        have B1 := Lib.hid (u1 w.heap.size w (Nat.le_refl _) HB.out)
        have hd := ldI_bd (1 + a0 % 9) T.size s l (by omega) hsl
        have HP1 := Lib.hid p1
        have hx1 : w1.cell? ⟨bb, off + k, none⟩ = some (.int .i64 (z2.getD k 0)) := by rw [B1.out.cell (by simpa using hbl)]; exact HCL.out k hlt
        clear u1 p1 HP HB
        obtain ⟨l3, hl3⟩ : ∃ l3, ldI (1 + a0 % 9) T.size s l = l3 := ⟨_, rfl⟩
        rw [hl3] at hd HP1
        clear hl3
        go_wp2_with fail
        refine (take_any w.heap.size (1 + a0 % 9) T s l3 t _ _ (by omega) (by omega) hd.1 HP1.out).mono ?_
        rintro e w2 ⟨j, t', hj, ht', hjj, rfl, p2, u2⟩
        have B2 := Lib.hid (u2 w.heap.size w (Nat.le_refl _) B1.out)
        have HP2 := Lib.hid p2
        have hx := cut_on T s j (by omega)
        clear u2 p2 HP1 B1 hx1
        obtain ⟨s3, hs3⟩ : ∃ s3, s + j = s3 := ⟨_, rfl⟩
        obtain ⟨l4, hl4⟩ : ∃ l4, l3 - j = l4 := ⟨_, rfl⟩
        have hf1 : s3 + l4 ≤ T.size := by omega
        rw [hs3, hl4] at HP2
        rw [hs3] at hx
        rw [hs3]
        have hsz := cut_size T s3 (by omega)
        have hq1 : ((s3 : Int) + l4 + ((T.size : Int) - s3 - l4) != (T.size : Int)) = false := by simp; omega
        have hq2 : ¬ T.size < s3 := by omega
        have hq3 : decide (T.size < s3) = false := by simp; omega
        clear hs3 hl4 hd hjj
        go_wp2_with (first | (go_at_call 19; refine (sent_any _ _ _ _ _ _ _ HP2.out).mono ?_; rintro e w' ⟨rfl, rfl⟩) | (go_at_call 20; refine (left_any _ _ _ _ _ _ _ HP2.out).mono ?_; rintro e w' ⟨rfl, rfl⟩) | (go_at_call 21; refine (rest_any _ _ _ _ _ _ _ (by omega) hf1 HP2.out).mono ?_; rintro e w' ⟨rfl, nr, rfl⟩))
        go_roundw
        case rel => exact ⟨k + 1, s3, l4, t', by omega, by omega, by go_num, rfl, hf1, by omega, HP2.out.drewN _, below_drewN B2.out _⟩
        case measure => simp [intOf]; omega
      · have hkk : True := trivial
        have HQ2 := HQ
        go_wp2_with fail
        go_loopw [8, 10] (fun g i w2 => ∃ k s l t : Nat, k ≤ 31 ∧ i = .int .i64 k ∧ g = .string (T.extract 0 s) ∧ s + l ≤ T.size ∧ (k ≤ s ∨ s = T.size) ∧ t ≤ 40 + k ∧ Hid (PAt w2 w.heap.size (1 + a0 % 9) T s l t) ∧ Hid (Below w.heap.size w w2)) (fun _ i _ => 31 - (intOf i).toNat)
        case atStart => exact ⟨0, s, l, t, by omega, rfl, rfl, hsl, by omega, by omega, HP, HB⟩
        case round =>
          clear HP HB HQ HQ2
          obtain ⟨k2, s2, l2, t2, hk2, rfl, rfl, hsl2, hks, ht2, HP, HB⟩ := hrel
          by_cases h31 : k2 < 31
          · go_wp2_with fail
            refine (load_ex w.heap.size (1 + a0 % 9) T s2 l2 t2 _ (by omega) (by omega) hsl2 HP.out).mono ?_
            rintro e w3 ⟨m, rfl, p1, u1⟩
            have B1 := Lib.hid (u1 w.heap.size w (Nat.le_refl _) HB.out)
            have hd := ldI_bd (1 + a0 % 9) T.size s2 l2 (by omega) hsl2
            have HP1 := Lib.hid p1
            clear u1 p1 HP HB
            obtain ⟨l3, hl3⟩ : ∃ l3, ldI (1 + a0 % 9) T.size s2 l2 = l3 := ⟨_, rfl⟩
            rw [hl3] at hd HP1
            clear hl3
            go_wp2_with fail
            refine (take_any w.heap.size (1 + a0 % 9) T s2 l3 t2 1 _ (by omega) (by omega) hd.1 HP1.out).mono ?_
            rintro e w4 ⟨j, t', hj, ht', hjj, rfl, p2, u2⟩
            have B2 := Lib.hid (u2 w.heap.size w (Nat.le_refl _) B1.out)
            have HP2 := Lib.hid p2
            have hx := cut_on T s2 j (by omega)
            clear u2 p2 HP1 B1
            have hj0 : s2 < T.size → 0 < j := fun h => hjj (by omega) (hd.2 h)
            obtain ⟨s3, hs3⟩ : ∃ s3, s2 + j = s3 := ⟨_, rfl⟩
            obtain ⟨l4, hl4⟩ : ∃ l4, l3 - j = l4 := ⟨_, rfl⟩
            have hf1 : s3 + l4 ≤ T.size := by omega
            have hf2 : k2 + 1 ≤ s3 ∨ s3 = T.size := by omega
            rw [hs3, hl4] at HP2
            rw [hs3] at hx
            rw [hs3]
            clear hs3 hl4 hd hjj hj0
            go_wp2
            go_roundw
            case rel => exact ⟨k2 + 1, s3, l4, t', by omega, by go_num, rfl, hf1, hf2, by omega, HP2, B2⟩
            case measure => simp [intOf]; omega
          · obtain rfl : s2 = T.size := by omega
            obtain rfl : l2 = 0 := by omega
            have hall := cut_all T
            go_wp2_with (first | (go_at_call 20; refine (left_any _ _ _ _ _ _ _ HP.out).mono ?_; rintro e w' ⟨rfl, rfl⟩) | (go_at_call 21; refine (rest_any _ _ _ _ _ _ _ (by omega) hsl2 HP.out).mono ?_; rintro e w' ⟨rfl, nr, rfl⟩) | (go_at_call 18; refine (lives_any _).mono ?_; rintro e w' ⟨rfl, hb⟩))
            go_ret
            exact ⟨rfl, (below_drewN HB.out _).trans (Below.mono (by assumption) (by have := HB.out.size; simp; omega))⟩
    · have hkk : True := trivial
      have HQ2 := HQ
      go_wp2_with fail
      go_loopw [8, 10] (fun g i w2 => ∃ k s l t : Nat, k ≤ 31 ∧ i = .int .i64 k ∧ g = .string (T.extract 0 s) ∧ s + l ≤ T.size ∧ (k ≤ s ∨ s = T.size) ∧ t ≤ 40 + k ∧ Hid (PAt w2 w.heap.size (1 + a0 % 9) T s l t) ∧ Hid (Below w.heap.size w w2)) (fun _ i _ => 31 - (intOf i).toNat)
      case atStart => exact ⟨0, s, l, t, by omega, rfl, rfl, hsl, by omega, by omega, HP, HB⟩
      case round =>
        clear HP HB HQ HQ2
        obtain ⟨k2, s2, l2, t2, hk2, rfl, rfl, hsl2, hks, ht2, HP, HB⟩ := hrel
        by_cases h31 : k2 < 31
        · go_wp2_with fail
          refine (load_ex w.heap.size (1 + a0 % 9) T s2 l2 t2 _ (by omega) (by omega) hsl2 HP.out).mono ?_
          rintro e w3 ⟨m, rfl, p1, u1⟩
          have B1 := Lib.hid (u1 w.heap.size w (Nat.le_refl _) HB.out)
          have hd := ldI_bd (1 + a0 % 9) T.size s2 l2 (by omega) hsl2
          have HP1 := Lib.hid p1
          clear u1 p1 HP HB
          obtain ⟨l3, hl3⟩ : ∃ l3, ldI (1 + a0 % 9) T.size s2 l2 = l3 := ⟨_, rfl⟩
          rw [hl3] at hd HP1
          clear hl3
          go_wp2_with fail
          refine (take_any w.heap.size (1 + a0 % 9) T s2 l3 t2 1 _ (by omega) (by omega) hd.1 HP1.out).mono ?_
          rintro e w4 ⟨j, t', hj, ht', hjj, rfl, p2, u2⟩
          have B2 := Lib.hid (u2 w.heap.size w (Nat.le_refl _) B1.out)
          have HP2 := Lib.hid p2
          have hx := cut_on T s2 j (by omega)
          clear u2 p2 HP1 B1
          have hj0 : s2 < T.size → 0 < j := fun h => hjj (by omega) (hd.2 h)
          obtain ⟨s3, hs3⟩ : ∃ s3, s2 + j = s3 := ⟨_, rfl⟩
          obtain ⟨l4, hl4⟩ : ∃ l4, l3 - j = l4 := ⟨_, rfl⟩
          have hf1 : s3 + l4 ≤ T.size := by omega
          have hf2 : k2 + 1 ≤ s3 ∨ s3 = T.size := by omega
          rw [hs3, hl4] at HP2
          rw [hs3] at hx
          rw [hs3]
          clear hs3 hl4 hd hjj hj0
          go_wp2
          go_roundw
          case rel => exact ⟨k2 + 1, s3, l4, t', by omega, by go_num, rfl, hf1, hf2, by omega, HP2, B2⟩
          case measure => simp [intOf]; omega
        · obtain rfl : s2 = T.size := by omega
          obtain rfl : l2 = 0 := by omega
          have hall := cut_all T
          go_wp2_with (first | (go_at_call 20; refine (left_any _ _ _ _ _ _ _ HP.out).mono ?_; rintro e w' ⟨rfl, rfl⟩) | (go_at_call 21; refine (rest_any _ _ _ _ _ _ _ (by omega) hsl2 HP.out).mono ?_; rintro e w' ⟨rfl, nr, rfl⟩) | (go_at_call 18; refine (lives_any _).mono ?_; rintro e w' ⟨rfl, hb⟩))
          go_ret
          exact ⟨rfl, (below_drewN HB.out _).trans (Below.mono (by assumption) (by have := HB.out.size; simp; omega))⟩

set_option maxRecDepth 100000 in
theorem lifted (os : Os) (started : os.Started) (H : Type) (enc : TypeId × Value → H) :
    ReturnsInHanded {} Try.checked os 4 .any (Rows.pendOrdersSpec.pre6 enc Try.prog Try.f4 Rows.pendOrdersRow.domain false) (Rows.pendOrdersSpec.post enc Try.prog Try.f4 false true false false) := by
  refine returnsInHanded_of_change (C := Try.checked) ownKn started (by kernel_rfl) Try.func4
    (ChangeSpec.witness6 (enc := enc) (C := Try.checked) false ⟨#[], #[.int .u8 0, .string ByteArray.empty, .slice none 0 0], []⟩ 8 (by kernel_rfl) (by kernel_rfl) (by kernel_rfl) (by kernel_rfl)) ?_
  intro W base args ds gs before hval0 hW hcnd _
  have hval : ∀ (j : Nat) t v, Try.f4.params[j]? = some t → args[j]? = some v → Value.okWide Try.prog W .any base t v := hval0
  have hW' := hW
  obtain ⟨p, q, hA0, hV, rfl, hfz, hnd⟩ := hW
  have hA : DataW.TrodAll enc Try.prog W 0 (fun _ => true) true Try.f4.params.toList args.toList ds p := hA0
  rw [Try.params4] at hA hval
  obtain ⟨v0, vs0, d0, ds0, p0, q0, hargs, rfl, rfl, h0, r0⟩ := trodAll_cons hA
  obtain ⟨v1, vs1, d1, ds1, p1, q1, rfl, rfl, rfl, h1, r1⟩ := trodAll_cons r0
  obtain ⟨v2, vs2, d2, ds2, p2, q2, rfl, rfl, rfl, h2, r2⟩ := trodAll_cons r1
  obtain ⟨rfl, rfl, rfl⟩ := trodAll_nil r2
  obtain rfl : args = #[v0, v1, v2] := by cases args; simp_all
  obtain ⟨rfl, rfl⟩ := trodVars_none hV
  have k0 := h0
  have lt0 : ∀ x ∈ p0, x.block < W.heap.size := by obtain ⟨m, hm⟩ := k0; exact DataW.trod_lt m _ _ _ hm
  obtain ⟨a0, rfl, rfl, rfl, w0⟩ := open_int Try.underlying5 (hval 0 5 v0 rfl rfl) h0
  have k1 := h1
  have lt1 : ∀ x ∈ p1, x.block < W.heap.size := by obtain ⟨m, hm⟩ := k1; exact DataW.trod_lt m _ _ _ hm
  obtain ⟨a1, rfl, rfl, rfl, w1⟩ := open_string Try.underlying9 (hval 1 9 v1 rfl rfl) h1
  have k2 := h2
  have lt2 : ∀ x ∈ p2, x.block < W.heap.size := by obtain ⟨m, hm⟩ := k2; exact DataW.trod_lt m _ _ _ hm
  obtain ⟨b2, lb2, cb2, rfl⟩ := okWide_slice Try.underlying43 (hval 2 43 v2 rfl rfl)
  obtain ⟨fu2, hf2⟩ := h2
  simp only [Value.cells] at hf2
  obtain ⟨a2, len2, cap2, z2, e2, w2⟩ := fld_row Try.underlying43 Try.underlying3 (by kernel_rfl) hf2
  obtain ⟨rfl, rfl, rfl⟩ : b2 = a2 ∧ lb2 = len2 ∧ cb2 = cap2 := by simpa using e2
  clear hA0 hval0
  refine (walk a0 a1 b2 lb2 cb2 z2 W w0 w1 w2).mono fun e W' ⟨he, bel⟩ => ?_
  subst he
  exact ⟨_, rfl, _, _, _, [], _, [], hW', trodAll_mk1 (shut_bool Try.underlying4 _), (trodAll_cons_mk (Below.trod laidOut (by kernel_rfl) (of_decide_eq_true (by kernel_rfl)) k0 bel lt0) (trodAll_cons_mk (Below.trod laidOut (by kernel_rfl) (of_decide_eq_true (by kernel_rfl)) k1 bel lt1) (trodAll_cons_mk (Below.trod laidOut (by kernel_rfl) (of_decide_eq_true (by kernel_rfl)) k2 bel lt2) trodAll_mk0))), rfl, bel.frame _, fun h => by cases h⟩

theorem over : Rows.pendOrdersRow.holds Try.pinned (OpenSpec.ofChange Rows.pendOrdersSpec) :=
  OpenClaim.holds_of_wide 4 Try.f4 rfl rfl rfl rfl rfl rfl rfl ⟨rfl, rfl, rfl, rfl, rfl⟩ rfl rfl rfl rfl rfl (by kernel_rfl) Try.func4 (by kernel_rfl)
    (of_decide_eq_true (by kernel_rfl)) (by unfold Func.isWrapper; first | (rw [if_pos (by decide +kernel)]; kernel_rfl) | (rw [if_neg (by decide +kernel)]; exact ⟨rfl, rfl⟩))
    (fun os started H enc _ => lifted os started H enc)

/-- The statement. -/
theorem proved : Rows.PendOrdersSaid := over
#print axioms proved
end Go.Proofs.Ytalkmokecnnhmaa.pendOrders
