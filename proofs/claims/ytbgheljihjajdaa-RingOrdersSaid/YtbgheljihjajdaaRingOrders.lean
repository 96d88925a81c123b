/- P3.3: for every room, texts and pieces: what is taken is what came, in order, each byte once. No condition. -/
import Derived.Test.YtbgheljihjajdaaOpen
import Derived.WalkKit
import Derived.ProofKit
import Derived.OpenShut
import Derived.Test.YtbgheljihjajdaaRingRef
namespace Go.Proofs.Ytbgheljihjajdaa.ringOrders
open Go.Joins Go.ChangeShapes Go.WideShapes Go.ChangeAt Go.RowKit Go.Deep
open Go.ChangeMaps (open_string)
set_option linter.unusedSimpArgs false
set_option linter.unusedVariables false

theorem cut_on (S : ByteArray) (k : Nat) (h : k ≤ S.size) : S.extract 0 k ++ S.extract k S.size = S := by
  rw [ByteArray.extract_append_extract, show min 0 k = 0 by omega, show max k S.size = S.size by omega]
  exact cut_whole S
theorem clN_all (S : ByteArray) : clN (S.size : Int) S.size = S.size := by
  unfold clN; rw [if_neg (by omega)]; omega
set_option maxHeartbeats 2000000 in

theorem walk (a0 : Int) (a1 : Option Addr) (len1 cap1 : Nat) (z1 : List ByteArray) (a2 : Option Addr) (len2 cap2 : Nat) (z2 : List Int) (w : World) (w0 : (Lit.int .u8 a0).wf = true) (w1 : IsStrs w a1 len1 cap1 z1) (w2 : IsRow .u8 w a2 len2 cap2 z2) :
    Calls Try.prog 4 #[.int .u8 a0, .slice a1 len1 cap1, .slice a2 len2 cap2] w fun e w' => e = .returned (.bool true) ∧ Below w.heap.size w w' := by
  have b0 : 0 ≤ a0 ∧ a0 ≤ 255 := bounds_u8 w0
  obtain ⟨hzl, hlc, hcm, hnil, hwz, hcell⟩ := w1
  obtain ⟨hzl1, hlc1, hcm1, hnil1, hwz1, hcell1⟩ := w2
  unfold maxLen at hcm hcm1 hwz
  have HCELL := Lib.hid hcell
  have HWZ := Lib.hid hwz
  have HZL := Lib.hid hzl
  have HC1 := Lib.hid hcell1
  have HWZ1 := Lib.hid hwz1
  have HZL1 := Lib.hid hzl1
  clear hcell hnil hwz hzl hcell1 hnil1 hwz1 hzl1
  obtain ⟨n, hn⟩ : ∃ n : Nat, (n : Int) = 1 + a0 % 12 := ⟨(1 + a0 % 12).toNat, by omega⟩
  have hn1 : 1 ≤ n ∧ n ≤ 12 := by omega
  have hnn : min (max (1 + a0 % 12) 1) 4096 = (n : Int) := by omega
  have HNN := Lib.hid hnn
  clear hn hnn
  go_enter Try.func4, Try.ntmps4
  go_wp2_with fail
  refine (new_any n _ w HNN.out).mono ?_
  rintro e u1 ⟨rfl, r1, b1⟩
  have F1 : Hid (RAt u1 (w.heap.size + 1) w.heap.size n 0 ByteArray.empty ∧ Below w.heap.size w u1) := ⟨r1, b1⟩
  clear r1 b1
  go_wp2_with fail
  go_loopw [8, 9, 10] (fun gi go i wr => ∃ (k f : Nat) (I O S : ByteArray), k ≤ 24 ∧ k ≤ len1 ∧ gi = .string I ∧ go = .string O ∧ i = .int .i64 k ∧ Hid (O ++ S = I) ∧ I.size ≤ 15 * k ∧ Hid (RAt wr (w.heap.size + 1) w.heap.size n f S ∧ Below w.heap.size w wr)) (fun _ _ i _ => 24 - (intOf i).toNat)
  case atStart => exact ⟨0, 0, ByteArray.empty, ByteArray.empty, ByteArray.empty, by omega, by omega, rfl, rfl, rfl, by simp [Hid], by simp, F1⟩
  case round =>
    clear F1
    obtain ⟨k, f, I, O, S, hk24, hkl, rfl, rfl, rfl, hx, hI, HP⟩ := hrel
    have hIS : I.size = O.size + S.size := by rw [← hx.out, ByteArray.size_append]
    have hSn : S.size ≤ n := HP.out.1.2.2.2.1
    by_cases hlt : k < len1
    · by_cases h24 : k < 24
      · obtain ⟨bb, off, hab, hbl, hcl⟩ := HCELL.out (by omega)
        subst hab
        obtain ⟨s0, hs0⟩ : ∃ s0, z1.getD k ByteArray.empty = s0 := ⟨_, rfl⟩
        have hy : wr.cell? ⟨bb, off + k, none⟩ = some (.string s0) := by rw [← hs0, HP.out.2.cell (by simpa using hbl)]; exact hcl k hlt
        have hsl : s0.size ≤ 9223372036854775807 := by
          rw [← hs0]
          have hl := HZL.out
          have : z1.getD k ByteArray.empty = z1[k]'(by omega) := by simp [List.getD, List.getElem?_eq_getElem (show k < z1.length by omega)]
          rw [this]
          have := HWZ.out _ (List.getElem_mem (show k < z1.length by omega))
          omega
        obtain ⟨T, hT⟩ : ∃ T, s0.extract 0 15 = T := ⟨_, rfl⟩
        have zT : T.size ≤ 15 := by rw [← hT, ByteArray.size_extract]; omega
        have HT := Lib.hid hT
        clear hcl hT hs0
        go_wp2_with (go_at_call 10; refine (cut_any _ hsl 15 (by omega) _).mono ?_; rintro e w' ⟨rfl, rfl⟩)
        rw [HT.out]
        refine (put_any _ _ n f S T _ (by omega) HP.out.1).mono ?_
        obtain ⟨m, hm⟩ : ∃ m, min T.size (n - S.size) = m := ⟨_, rfl⟩
        rw [hm]
        rintro e u2 ⟨rfl, r2, c2⟩
        obtain ⟨S2, hS2⟩ : ∃ S2, S ++ T.extract 0 m = S2 := ⟨_, rfl⟩
        have hz2 : S2.size = S.size + m := by rw [← hS2, ByteArray.size_append, ByteArray.size_extract]; omega
        have F2 : Hid (RAt u2 (w.heap.size + 1) w.heap.size n f S2 ∧ Below w.heap.size w u2) := by
          rw [hS2] at r2
          exact ⟨r2, c2.onto HP.out.2 HP.out.2.size (by simp)⟩
        obtain ⟨I2, hI2⟩ : ∃ I2, I ++ T.extract 0 m = I2 := ⟨_, rfl⟩
        have hz3 : I2.size = I.size + m := by rw [← hI2, ByteArray.size_append, ByteArray.size_extract]; omega
        have hx2 : Hid (O ++ S2 = I2) := by rw [Hid, ← hS2, ← hI2, ← ByteArray.append_assoc, hx.out]
        have HI2 := Lib.hid hI2
        have HS2 := Lib.hid hS2
        have m1 : (0 : Int) ≤ (m : Int) := by omega
        have m2 : (m : Int) ≤ (T.size : Int) := by omega
        have s1 : ((n - S2.size : Nat) : Int) = (n : Int) - (S2.size : Int) := by omega
        have HSS := Lib.hid s1
        have HZ2 := Lib.hid hz2
        have HZ3 := Lib.hid hz3
        have hq : ((S2.size : Int) + ((n - S2.size : Nat) : Int) != (n : Int)) = false := by simp; omega
        clear r2 c2 HP hy hI2 hS2 hz2 hz3 s1 hm
        have hSn2 : S2.size ≤ n := F2.out.1.2.2.2.1
        by_cases hk1 : k < len2
        · obtain ⟨bb1, off1, hab1, hbl1, hcl1⟩ := HC1.out (by omega)
          subst hab1
          obtain ⟨z, hz⟩ : ∃ z, z2.getD k 0 = z := ⟨_, rfl⟩
          have hy1 : u2.cell? ⟨bb1, off1 + k, none⟩ = some (.int .u8 z) := by rw [← hz]; rw [F2.out.2.cell (by simpa using hbl1)]; exact hcl1 k hk1
          have bz : 0 ≤ z ∧ z ≤ 255 := by
            rw [← hz]
            have hl := HZL1.out
            have : z2.getD k 0 = z2[k]'(by omega) := by simp [List.getD, List.getElem?_eq_getElem (show k < z2.length by omega)]
            rw [this]
            exact bounds_u8 (HWZ1.out _ (List.getElem_mem _))
          have ht : z.tmod 9 = z % 9 := Int.tmod_eq_emod_of_nonneg bz.1
          clear hcl1 hz
          go_wp2_with (first | (go_at_call 17; refine (len_any _ _ _ _ _ _ F2.out.1).mono ?_; rintro e w' ⟨rfl, rfl⟩) | (go_at_call 18; refine (room_any _ _ _ _ _ _ F2.out.1).mono ?_; rintro e w' ⟨rfl, rfl⟩) | (go_at_call 19; refine (most_any _ _ _ _ _ _ F2.out.1).mono ?_; rintro e w' ⟨rfl, rfl⟩))
          refine (take_any _ _ n f S2 (z % 9) _ F2.out.1).mono ?_
          rintro e u3 ⟨f3, rfl, r3, c3⟩
          obtain ⟨j, hj⟩ : ∃ j, clN (z % 9) S2.size = j := ⟨_, rfl⟩
          have hjs : j ≤ S2.size := by rw [← hj]; exact clN_le _ _
          have F3 : Hid (RAt u3 (w.heap.size + 1) w.heap.size n f3 (S2.extract j S2.size) ∧ Below w.heap.size w u3) := by
            rw [hj] at r3
            exact ⟨r3, c3.onto F2.out.2 F2.out.2.size (by simp)⟩
          have hx3 : Hid ((O ++ S2.extract 0 j) ++ S2.extract j S2.size = I2) := by
            rw [Hid, ByteArray.append_assoc, cut_on _ _ hjs]; exact hx2.out
          rw [hj]
          clear r3 c3 F2 hy1
          go_wp2
          rw [HI2.out]
          refine ⟨?_, ?measure⟩
          case measure => simp [intOf]; omega
          have hz3 := HZ3.out
          first
            | exact ⟨k + 1, f3, I2, _, _, by omega, by omega, rfl, rfl, by go_num, hx3, by omega, F3⟩
            | ((repeat apply Exists.intro); exact ⟨⟨k + 1, f3, I2, _, _, by omega, by omega, rfl, rfl, by go_num, hx3, by omega, F3⟩, rfl⟩)
        · go_wp2_with (first | (go_at_call 17; refine (len_any _ _ _ _ _ _ F2.out.1).mono ?_; rintro e w' ⟨rfl, rfl⟩) | (go_at_call 18; refine (room_any _ _ _ _ _ _ F2.out.1).mono ?_; rintro e w' ⟨rfl, rfl⟩) | (go_at_call 19; refine (most_any _ _ _ _ _ _ F2.out.1).mono ?_; rintro e w' ⟨rfl, rfl⟩))
          rw [HI2.out]
          have hz3 := HZ3.out
          refine ⟨⟨k + 1, f, I2, _, _, by omega, by omega, rfl, rfl, by go_num, hx2, by omega, F2⟩, ?measure⟩
          case measure => simp [intOf]; omega
      · go_wp2_with (go_at_call 17; refine (len_any _ _ _ _ _ _ HP.out.1).mono ?_; rintro e w' ⟨rfl, rfl⟩)
        refine (take_any _ _ n f S _ _ HP.out.1).mono ?_
        rintro e u3 ⟨f3, rfl, r3, c3⟩
        rw [clN_all, cut_whole]
        obtain ⟨E, hE⟩ : ∃ E, S.extract S.size S.size = E := ⟨_, rfl⟩
        have zE : E.size = 0 := by rw [← hE, ByteArray.size_extract]; omega
        have F3 : Hid (RAt u3 (w.heap.size + 1) w.heap.size n f3 E ∧ Below w.heap.size w u3) := by
          rw [clN_all, hE] at r3
          exact ⟨r3, c3.onto HP.out.2 HP.out.2.size (by simp)⟩
        have hxx := hx.out
        clear r3 c3 HP hE
        go_wp2_with (first | (go_at_call 17; refine (len_any _ _ _ _ _ _ F3.out.1).mono ?_; rintro e w' ⟨rfl, rfl⟩) | (go_at_call 16; refine (lives_any _).mono ?_; rintro e w4 ⟨rfl, hb⟩))
        go_ret
        exact ⟨rfl, F3.out.2.trans (Below.mono (by assumption) F3.out.2.size)⟩
    · go_wp2_with (go_at_call 17; refine (len_any _ _ _ _ _ _ HP.out.1).mono ?_; rintro e w' ⟨rfl, rfl⟩)
      refine (take_any _ _ n f S _ _ HP.out.1).mono ?_
      rintro e u3 ⟨f3, rfl, r3, c3⟩
      rw [clN_all, cut_whole]
      obtain ⟨E, hE⟩ : ∃ E, S.extract S.size S.size = E := ⟨_, rfl⟩
      have zE : E.size = 0 := by rw [← hE, ByteArray.size_extract]; omega
      have F3 : Hid (RAt u3 (w.heap.size + 1) w.heap.size n f3 E ∧ Below w.heap.size w u3) := by
        rw [clN_all, hE] at r3
        exact ⟨r3, c3.onto HP.out.2 HP.out.2.size (by simp)⟩
      have hxx := hx.out
      clear r3 c3 HP hE
      go_wp2_with (first | (go_at_call 17; refine (len_any _ _ _ _ _ _ F3.out.1).mono ?_; rintro e w' ⟨rfl, rfl⟩) | (go_at_call 16; refine (lives_any _).mono ?_; rintro e w4 ⟨rfl, hb⟩))
      go_ret
      exact ⟨rfl, F3.out.2.trans (Below.mono (by assumption) F3.out.2.size)⟩

set_option maxRecDepth 100000 in
theorem lifted (os : Os) (started : os.Started) (H : Type) (enc : TypeId × Value → H) :
    ReturnsInHanded {} Try.checked os 4 .any (Rows.ringOrdersSpec.pre6 enc Try.prog Try.f4 Rows.ringOrdersRow.domain false) (Rows.ringOrdersSpec.post enc Try.prog Try.f4 false true false false) := by
  refine returnsInHanded_of_change (C := Try.checked) ownKn started (by kernel_rfl) Try.func4
    (ChangeSpec.witness6 (enc := enc) (C := Try.checked) false ⟨#[], #[.int .u8 0, .slice none 0 0, .slice none 0 0], []⟩ 8 (by kernel_rfl) (by kernel_rfl) (by kernel_rfl) (by kernel_rfl)) ?_
  intro W base args ds gs before hval0 hW hcnd _
  have hval : ∀ (j : Nat) t v, Try.f4.params[j]? = some t → args[j]? = some v → Value.okWide Try.prog W .any base t v := hval0
  have hW' := hW
  obtain ⟨p, q, hA0, hV, rfl, hfz, hnd⟩ := hW
  have hA : DataW.TrodAll enc Try.prog W 0 (fun _ => true) true Try.f4.params.toList args.toList ds p := hA0
  rw [Try.params4] at hA hval
  obtain ⟨v0, vs0, d0, ds0, p0, q0, hargs, rfl, rfl, h0, r0⟩ := trodAll_cons hA
  obtain ⟨v1, vs1, d1, ds1, p1, q1, rfl, rfl, rfl, h1, r1⟩ := trodAll_cons r0
  obtain ⟨v2, vs2, d2, ds2, p2, q2, rfl, rfl, rfl, h2, r2⟩ := trodAll_cons r1
  obtain ⟨rfl, rfl, rfl⟩ := trodAll_nil r2
  obtain rfl : args = #[v0, v1, v2] := by cases args; simp_all
  obtain ⟨rfl, rfl⟩ := trodVars_none hV
  have k0 := h0
  have lt0 : ∀ x ∈ p0, x.block < W.heap.size := by obtain ⟨m, hm⟩ := k0; exact DataW.trod_lt m _ _ _ hm
  obtain ⟨a0, rfl, rfl, rfl, w0⟩ := open_int Try.underlying5 (hval 0 5 v0 rfl rfl) h0
  have k1 := h1
  have lt1 : ∀ x ∈ p1, x.block < W.heap.size := by obtain ⟨m, hm⟩ := k1; exact DataW.trod_lt m _ _ _ hm
  obtain ⟨b1, lb1, cb1, rfl⟩ := okWide_slice Try.underlying43 (hval 1 43 v1 rfl rfl)
  obtain ⟨fu1, hf1⟩ := h1
  simp only [Value.cells] at hf1
  obtain ⟨a1, len1, cap1, z1, e1, w1⟩ := fld_strs Try.underlying43 Try.underlying9 (by kernel_rfl) hf1
  obtain ⟨rfl, rfl, rfl⟩ : b1 = a1 ∧ lb1 = len1 ∧ cb1 = cap1 := by simpa using e1
  have k2 := h2
  have lt2 : ∀ x ∈ p2, x.block < W.heap.size := by obtain ⟨m, hm⟩ := k2; exact DataW.trod_lt m _ _ _ hm
  obtain ⟨b2, lb2, cb2, rfl⟩ := okWide_slice Try.underlying44 (hval 2 44 v2 rfl rfl)
  obtain ⟨fu2, hf2⟩ := h2
  simp only [Value.cells] at hf2
  obtain ⟨a2, len2, cap2, z2, e2, w2⟩ := fld_row Try.underlying44 Try.underlying5 (by kernel_rfl) hf2
  obtain ⟨rfl, rfl, rfl⟩ : b2 = a2 ∧ lb2 = len2 ∧ cb2 = cap2 := by simpa using e2
  clear hA0 hval0
  refine (walk a0 b1 lb1 cb1 z1 b2 lb2 cb2 z2 W w0 w1 w2).mono fun e W' ⟨he, bel⟩ => ?_
  subst he
  exact ⟨_, rfl, _, _, _, [], _, [], hW', trodAll_mk1 (shut_bool Try.underlying4 _), (trodAll_cons_mk (Below.trod laidOut (by kernel_rfl) (of_decide_eq_true (by kernel_rfl)) k0 bel lt0) (trodAll_cons_mk (Below.trod laidOut (by kernel_rfl) (of_decide_eq_true (by kernel_rfl)) k1 bel lt1) (trodAll_cons_mk (Below.trod laidOut (by kernel_rfl) (of_decide_eq_true (by kernel_rfl)) k2 bel lt2) trodAll_mk0))), rfl, bel.frame _, fun h => by cases h⟩

theorem over : Rows.ringOrdersRow.holds Try.pinned (OpenSpec.ofChange Rows.ringOrdersSpec) :=
  OpenClaim.holds_of_wide 4 Try.f4 rfl rfl rfl rfl rfl rfl rfl ⟨rfl, rfl, rfl, rfl, rfl⟩ rfl rfl rfl rfl rfl (by kernel_rfl) Try.func4 (by kernel_rfl)
    (of_decide_eq_true (by kernel_rfl)) (by unfold Func.isWrapper; first | (rw [if_pos (by decide +kernel)]; kernel_rfl) | (rw [if_neg (by decide +kernel)]; exact ⟨rfl, rfl⟩))
    (fun os started H enc _ => lifted os started H enc)

/-- The statement. -/
theorem proved : Rows.RingOrdersSaid := over
#print axioms proved
end Go.Proofs.Ytbgheljihjajdaa.ringOrders
