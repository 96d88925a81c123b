/- P26.2: for every calls: nobody's purse changes another one's. No condition. -/
import Derived.Test.YtgldildepechaaaOpen
import Derived.WalkKit
import Derived.ProofKit
import Derived.OpenShut
import Derived.Test.YtgldildepechaaaPurseWalks
namespace Go.Proofs.Ytgldildepechaaa.purseApart
open Go.Joins Go.ChangeShapes Go.WideShapes Go.ChangeAt Go.RowKit Go.Deep
open Go.ChangeMaps (open_string)
set_option linter.unusedSimpArgs false
set_option linter.unusedVariables false

set_option maxHeartbeats 600000 in
theorem has_same (b h n id : Nat) (q v : Int) (w : World) (hid : id < n) (hn : n ≤ 1024) (u : UAt w b h n q id v) :
    Calls Try.prog 17 #[.pointer (some ⟨b, 0, none⟩), .int .i64 id] w fun e w' => e = .returned (.int .i64 v) ∧ w = w' := by
  obtain ⟨h0, h1, h2, f, hne⟩ := u
  have g1 : (0 : Int) ≤ (id : Int) := by omega
  have g2 : (id : Int) < (n : Int) := by omega
  go_enter Try.func17, Try.ntmps17
  go_wp2
  go_ret
  exact ⟨rfl, rfl⟩
set_option maxHeartbeats 2000000 in

theorem walk (a0 : Option Addr) (len0 cap0 : Nat) (a1 : Int) (w : World) (w0 : IsRecs .i64 3 w a0 len0 cap0) (w1 : (Lit.int .u8 a1).wf = true) :
    Calls Try.prog 5 #[.slice a0 len0 cap0, .int .u8 a1] w fun e w' => e = .returned (.bool true) ∧ Below w.heap.size w w' := by
  have bi : 0 ≤ a1 ∧ a1 ≤ 255 := bounds_u8 w1
  obtain ⟨hlc, hcm, hnil, hcell⟩ := w0
  unfold maxLen at hcm
  have HNIL := Lib.hid hnil
  have HCELL := Lib.hid hcell
  clear hnil hcell
  have e0 : clampI 7 1 1000000 = 7 := by decide
  obtain ⟨k, hk⟩ : ∃ k : Nat, a1 % 8 = (k : Int) := ⟨(a1 % 8).toNat, by omega⟩
  have hk8 : k < 8 := by omega
  go_enter Try.func5, Try.ntmps5
  go_wp2_with fail
  refine (new_any 8 7 w (by omega)).mono ?_
  rintro e w1 ⟨b, rfl, hu, B1⟩
  rw [e0] at hu
  have P1 := Lib.hid (PAll.init hu hk8)
  have HB1 := Lib.hid B1
  have hu1 := hu k hk8
  clear hu B1 e0
  go_wp2_with fail
  refine (give_plain b w.heap.size 8 k 7 0 _ hk8 (by omega) (by omega) (by omega) (by omega) hu1).mono ?_
  rintro e w2 ⟨rfl, hw2⟩
  rw [show (0 : Int) + 7 = 7 by omega] at hw2
  have P2 : Hid (PAll w2 b w.heap.size 8 7 k) := by rw [Hid, hw2]; exact P1.out
  have HB2 : Hid (Below w.heap.size w w2) := by rw [Hid, hw2]; exact HB1.out.drew.setCell (Nat.le_refl _) _
  clear hw2 P1 HB1 hu1
  go_wp2_with fail
  go_loopw [7] (fun i wr => ∃ n : Nat, i = .int .i64 n ∧ n ≤ 20 ∧ n ≤ len0 ∧ Hid (PAll wr b w.heap.size 8 7 k) ∧ Hid (Below w.heap.size w wr)) (fun i _ => 20 - (intOf i).toNat)
  case atStart => exact ⟨0, rfl, by omega, by omega, P2, HB2⟩
  case round =>
    clear P2 HB2
    obtain ⟨n, rfl, hn20, hnl, HP, HB⟩ := hrel
    by_cases hlt : n < len0
    · by_cases h20 : n < 20
      · obtain ⟨bb, off, hab, hbl, hcl⟩ := HCELL.out (by omega)
        subst hab
        obtain ⟨x0, hx0, wx0⟩ := hcl n hlt 0 (by omega)
        obtain ⟨x1, hx1, wx1⟩ := hcl n hlt 1 (by omega)
        obtain ⟨x2, hx2, wx2⟩ := hcl n hlt 2 (by omega)
        have y0 : wr.cell? ⟨bb, off + n * 3, none⟩ = some (.int .i64 x0) := by rw [HB.out.cell (by simpa using hbl)]; simpa using hx0
        have y1 : wr.cell? ⟨bb, off + n * 3 + 1, none⟩ = some (.int .i64 x1) := by rw [HB.out.cell (by simpa using hbl)]; simpa [Nat.add_assoc] using hx1
        have y2 : wr.cell? ⟨bb, off + n * 3 + 1 + 1, none⟩ = some (.int .i64 x2) := by rw [HB.out.cell (by simpa using hbl)]; simpa [Nat.add_assoc] using hx2
        have HCL := Lib.hid hcl
        clear hcl hx0 hx1 hx2
        have P3 : Hid (PAll (wr.alloc (Obj.cells #[Value.int IntKind.i64 x0, Value.int IntKind.i64 x1, Value.int IntKind.i64 x2] 33)) b w.heap.size 8 7 k) := Lib.hid (HP.out.alloc _)
        have B3 : Hid (Below w.heap.size w (wr.alloc (Obj.cells #[Value.int IntKind.i64 x0, Value.int IntKind.i64 x1, Value.int IntKind.i64 x2] 33))) := Lib.hid (HB.out.alloc HB.out.size _)
        by_cases hid : x1 = k
        · have hne : (x1 == (k : Int)) = true := by simpa using hid
          have HID := Lib.hid hid
          clear hid
          go_wp2_with fail
          go_roundw
          case rel => exact ⟨n + 1, by go_num, by omega, by omega, P3, B3⟩
          case measure => simp [intOf]; omega
        · have hne : (x1 == (k : Int)) = false := by simpa using hid
          go_wp2_with fail
          · refine (give_all b w.heap.size 8 7 x1 k _ (by omega) (by omega) hid P3.out).mono ?_
            rintro e w4 ⟨m, rfl, p4, u4⟩
            have PX := Lib.hid p4
            have BX := Lib.hid (u4 w.heap.size w (Nat.le_refl _) B3.out)
            clear p4 u4 P3 B3
            go_wp2_with (go_at_call 17; refine (has_same b w.heap.size 8 k 7 7 _ hk8 (by omega) (PX.out.has hk8)).mono ?_; rintro e w' ⟨rfl, rfl⟩)
            go_roundw
            case rel => exact ⟨n + 1, by go_num, by omega, by omega, PX, BX⟩
            case measure => simp [intOf]; omega
          · refine (pay_all b w.heap.size 8 7 x1 x2 k _ (by omega) hid P3.out).mono ?_
            rintro e w4 ⟨m, rfl, p4, u4⟩
            have PX := Lib.hid p4
            have BX := Lib.hid (u4 w.heap.size w (Nat.le_refl _) B3.out)
            clear p4 u4 P3 B3
            go_wp2_with (go_at_call 17; refine (has_same b w.heap.size 8 k 7 7 _ hk8 (by omega) (PX.out.has hk8)).mono ?_; rintro e w' ⟨rfl, rfl⟩)
            go_roundw
            case rel => exact ⟨n + 1, by go_num, by omega, by omega, PX, BX⟩
            case measure => simp [intOf]; omega
          · refine (clear_all b w.heap.size 8 7 x1 k _ (by omega) hid P3.out).mono ?_
            rintro e w4 ⟨m, rfl, p4, u4⟩
            have PX := Lib.hid p4
            have BX := Lib.hid (u4 w.heap.size w (Nat.le_refl _) B3.out)
            clear p4 u4 P3 B3
            go_wp2_with (go_at_call 17; refine (has_same b w.heap.size 8 k 7 7 _ hk8 (by omega) (PX.out.has hk8)).mono ?_; rintro e w' ⟨rfl, rfl⟩)
            go_roundw
            case rel => exact ⟨n + 1, by go_num, by omega, by omega, PX, BX⟩
            case measure => simp [intOf]; omega
          · have PX := P3
            have BX := B3
            go_wp2_with (go_at_call 17; refine (has_same b w.heap.size 8 k 7 7 _ hk8 (by omega) (PX.out.has hk8)).mono ?_; rintro e w' ⟨rfl, rfl⟩)
            go_roundw
            case rel => exact ⟨n + 1, by go_num, by omega, by omega, PX, BX⟩
            case measure => simp [intOf]; omega
      · go_wp2_with (go_at_call 19; refine (lives_any _).mono ?_; rintro e w4 ⟨rfl, hb⟩)
        go_ret
        exact ⟨rfl, Below.trans HB.out (Below.mono (by assumption) HB.out.size)⟩
    · go_wp2_with (go_at_call 19; refine (lives_any _).mono ?_; rintro e w4 ⟨rfl, hb⟩)
      go_ret
      exact ⟨rfl, Below.trans HB.out (Below.mono (by assumption) HB.out.size)⟩

set_option maxRecDepth 100000 in
theorem lifted (os : Os) (started : os.Started) (H : Type) (enc : TypeId × Value → H) :
    ReturnsInHanded {} Try.checked os 5 .any (Rows.purseApartSpec.pre6 enc Try.prog Try.f5 Rows.purseApartRow.domain false) (Rows.purseApartSpec.post enc Try.prog Try.f5 false true false false) := by
  refine returnsInHanded_of_change (C := Try.checked) ownKn started (by kernel_rfl) Try.func5
    (ChangeSpec.witness6 (enc := enc) (C := Try.checked) false ⟨#[], #[.slice none 0 0, .int .u8 0], []⟩ 8 (by kernel_rfl) (by kernel_rfl) (by kernel_rfl) (by kernel_rfl)) ?_
  intro W base args ds gs before hval0 hW hcnd _
  have hval : ∀ (j : Nat) t v, Try.f5.params[j]? = some t → args[j]? = some v → Value.okWide Try.prog W .any base t v := hval0
  have hW' := hW
  obtain ⟨p, q, hA0, hV, rfl, hfz, hnd⟩ := hW
  have hA : DataW.TrodAll enc Try.prog W 0 (fun _ => true) true Try.f5.params.toList args.toList ds p := hA0
  rw [Try.params5] at hA hval
  obtain ⟨v0, vs0, d0, ds0, p0, q0, hargs, rfl, rfl, h0, r0⟩ := trodAll_cons hA
  obtain ⟨v1, vs1, d1, ds1, p1, q1, rfl, rfl, rfl, h1, r1⟩ := trodAll_cons r0
  obtain ⟨rfl, rfl, rfl⟩ := trodAll_nil r1
  obtain rfl : args = #[v0, v1] := by cases args; simp_all
  obtain ⟨rfl, rfl⟩ := trodVars_none hV
  have k0 := h0
  have lt0 : ∀ x ∈ p0, x.block < W.heap.size := by obtain ⟨m, hm⟩ := k0; exact DataW.trod_lt m _ _ _ hm
  obtain ⟨b0, lb0, cb0, rfl⟩ := okWide_slice Try.underlying22 (hval 0 22 v0 rfl rfl)
  obtain ⟨fu0, hf0⟩ := h0
  simp only [Value.cells] at hf0
  obtain ⟨a0, len0, cap0, e0, w0⟩ := fld_recs (k := .i64) Try.underlying22 Try.underlying33 (by kernel_rfl) (by kernel_rfl) (by intro j f h; obtain rfl | rfl | rfl | hj : j = 0 ∨ j = 1 ∨ j = 2 ∨ 3 ≤ j := (by omega); all_goals (first | (simp at h; subst h; exact Try.underlying3) | (rw [Array.getElem?_eq_none (by simpa using hj)] at h; cases h))) (by decide) hf0
  obtain ⟨rfl, rfl, rfl⟩ : b0 = a0 ∧ lb0 = len0 ∧ cb0 = cap0 := by simpa using e0
  have k1 := h1
  have lt1 : ∀ x ∈ p1, x.block < W.heap.size := by obtain ⟨m, hm⟩ := k1; exact DataW.trod_lt m _ _ _ hm
  obtain ⟨a1, rfl, rfl, rfl, w1⟩ := open_int Try.underlying5 (hval 1 5 v1 rfl rfl) h1
  clear hA0 hval0
  refine (walk b0 lb0 cb0 a1 W w0 w1).mono fun e W' ⟨he, bel⟩ => ?_
  subst he
  exact ⟨_, rfl, _, _, _, [], _, [], hW', trodAll_mk1 (shut_bool Try.underlying4 _), (trodAll_cons_mk (Below.trod laidOut (by kernel_rfl) (of_decide_eq_true (by kernel_rfl)) k0 bel lt0) (trodAll_cons_mk (Below.trod laidOut (by kernel_rfl) (of_decide_eq_true (by kernel_rfl)) k1 bel lt1) trodAll_mk0)), rfl, bel.frame _, fun h => by cases h⟩

theorem over : Rows.purseApartRow.holds Try.pinned (OpenSpec.ofChange Rows.purseApartSpec) :=
  OpenClaim.holds_of_wide 5 Try.f5 rfl rfl rfl rfl rfl rfl rfl ⟨rfl, rfl, rfl, rfl, rfl⟩ rfl rfl rfl rfl rfl (by kernel_rfl) Try.func5 (by kernel_rfl)
    (of_decide_eq_true (by kernel_rfl)) (by unfold Func.isWrapper; first | (rw [if_pos (by decide +kernel)]; kernel_rfl) | (rw [if_neg (by decide +kernel)]; exact ⟨rfl, rfl⟩))
    (fun os started H enc _ => lifted os started H enc)

/-- The statement. -/
theorem proved : Rows.PurseApartSaid := over
#print axioms proved
end Go.Proofs.Ytgldildepechaaa.purseApart
