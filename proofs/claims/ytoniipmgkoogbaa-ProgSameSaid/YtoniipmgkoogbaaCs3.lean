/- Contracts of sets of bytes: the set of a text, and of all bytes from one to another. -/
import Derived.Test.YtoniipmgkoogbaaCs2
import Derived.Deep.RegionWith
import Derived.Deep.RegionHeld3
namespace Go.Proofs.Ytoniipmgkoogbaa
open Go.ChangeShapes Go.WideShapes Go.ChangeAt Go.RowKit
set_option linter.unusedSimpArgs false
set_option linter.unusedVariables false

theorem sv_def (X : BitVec 256) : Value.agg #[.int .u64 (Cs.wd X 0), .int .u64 (Cs.wd X 1), .int .u64 (Cs.wd X 2), .int .u64 (Cs.wd X 3)] = Cs.sv X := rfl
theorem set4_two {w W : World} {R B : Nat} {Z X : BitVec 256} (h : SB W R Z) (k : SB W B X) (b : Below w.heap.size w W) (hne : R ≠ B) (hB : w.heap.size ≤ B) (Y : BitVec 256) :
    SB ((((W.setCell ⟨B, 0, none⟩ (.int .u64 (Cs.wd Y 0))).setCell ⟨B, 1, none⟩ (.int .u64 (Cs.wd Y 1))).setCell ⟨B, 2, none⟩ (.int .u64 (Cs.wd Y 2))).setCell ⟨B, 3, none⟩ (.int .u64 (Cs.wd Y 3))) R Z ∧ SB ((((W.setCell ⟨B, 0, none⟩ (.int .u64 (Cs.wd Y 0))).setCell ⟨B, 1, none⟩ (.int .u64 (Cs.wd Y 1))).setCell ⟨B, 2, none⟩ (.int .u64 (Cs.wd Y 2))).setCell ⟨B, 3, none⟩ (.int .u64 (Cs.wd Y 3))) B Y ∧ Below w.heap.size w ((((W.setCell ⟨B, 0, none⟩ (.int .u64 (Cs.wd Y 0))).setCell ⟨B, 1, none⟩ (.int .u64 (Cs.wd Y 1))).setCell ⟨B, 2, none⟩ (.int .u64 (Cs.wd Y 2))).setCell ⟨B, 3, none⟩ (.int .u64 (Cs.wd Y 3))) :=
  ⟨(((h.other hne _ _).other hne _ _).other hne _ _).other hne _ _, k.res b hB Y⟩
set_option maxRecDepth 20000 in
set_option maxHeartbeats 1000000 in
theorem cs_of (s : ByteArray) (hs : s.size ≤ 1000000) (w : World) :
    Calls Try.prog 41 #[.string s] w fun e w' => e = .returned (Cs.sv (Cs.ofL s.data.toList)) ∧ Below w.heap.size w w' := by
  obtain ⟨F, hF⟩ : ∃ F, Cs.ofL s.data.toList = F := ⟨_, rfl⟩
  rw [hF]
  have HF := Lib.hid hF
  clear hF
  have hc : Hid (SB ((w.alloc (.cells #[.int .u64 0, .int .u64 0, .int .u64 0, .int .u64 0] 67)).alloc (.cells #[.int .u64 0, .int .u64 0, .int .u64 0, .int .u64 0] 67)) w.heap.size 0 ∧ SB ((w.alloc (.cells #[.int .u64 0, .int .u64 0, .int .u64 0, .int .u64 0] 67)).alloc (.cells #[.int .u64 0, .int .u64 0, .int .u64 0, .int .u64 0] 67)) (w.heap.size + 1) 0 ∧ Below w.heap.size w ((w.alloc (.cells #[.int .u64 0, .int .u64 0, .int .u64 0, .int .u64 0] 67)).alloc (.cells #[.int .u64 0, .int .u64 0, .int .u64 0, .int .u64 0] 67))) :=
    Lib.hid ⟨(SB.zero w).alloc _, by have := SB.zero (w.alloc (.cells #[.int .u64 0, .int .u64 0, .int .u64 0, .int .u64 0] 67)); simpa using this, ((Below.refl _ _).alloc (Nat.le_refl _) _).alloc (by simp) _⟩
  go_enter Try.func41, Try.ntmps41
  go_upto_region 2 with fail
  revert hc
  generalize (w.alloc (.cells #[.int .u64 0, .int .u64 0, .int .u64 0, .int .u64 0] 67)).alloc (.cells #[.int .u64 0, .int .u64 0, .int .u64 0, .int .u64 0] 67) = W
  intro hc
  go_wp2
  go_loopw [7] (fun i wr => ∃ k : Nat, i = .int .i64 k ∧ k ≤ s.size ∧ Hid (SB wr w.heap.size 0 ∧ SB wr (w.heap.size + 1) (Cs.ofL (s.data.toList.take k)) ∧ Below w.heap.size w wr)) (fun i _ => s.size - (intOf i).toNat)
  case atStart => exact ⟨0, rfl, by omega, Lib.hid hc.out⟩
  case round =>
    clear hc
    obtain ⟨k, rfl, hk, HB⟩ := hrel
    have i0 : (0 : Int) ≤ (k : Int) := by omega
    by_cases hkl : k < s.size
    · obtain ⟨X, hX⟩ : ∃ X, Cs.ofL (s.data.toList.take k) = X := ⟨_, rfl⟩
      obtain ⟨Y, hY⟩ : ∃ Y, X ||| Cs.bitS s[k].toNat = Y := ⟨_, rfl⟩
      have HB0 : Hid (SB wr.drew w.heap.size 0 ∧ SB wr.drew (w.heap.size + 1) X ∧ Below w.heap.size w wr.drew) := Lib.hid (by
        have h := HB.out; rw [hX] at h; exact ⟨h.1.drew, h.2.1.drew, h.2.2.drew⟩)
      have HY : Hid (Cs.ofL (s.data.toList.take (k + 1)) = Y ∧ X ||| Cs.bitS s[k].toNat = Y) := Lib.hid ⟨by
        rw [← hY, ← hX, List.take_succ_eq_append_getElem (by simpa using hkl), Cs.ofL_snoc]; rfl, hY⟩
      have hb := s[k].toNat_lt
      clear hX hY HB
      have x0 := HB0.out.2.1.at (i := 0) (by decide)
      have x1 := HB0.out.2.1.at (i := 1) (by decide)
      have x2 := HB0.out.2.1.at (i := 2) (by decide)
      have x3 := HB0.out.2.1.at (i := 3) (by decide)
      have xf0 := HB0.out.2.1.free 0
      have xf1 := HB0.out.2.1.free 1
      have xf2 := HB0.out.2.1.free 2
      have xf3 := HB0.out.2.1.free 3
      go_wp2_with fail
      go_region_with (go_at_call 46; rw [sv_def X]; refine (cs_with X s[k].toNat (by omega) _).mono ?_; rintro e w2 ⟨rfl, hb2⟩; rw [HY.out.2]; unfold Cs.sv; have HB1 : Hid (SB w2 w.heap.size 0 ∧ SB w2 (w.heap.size + 1) X ∧ Below w.heap.size w w2) := Lib.hid ⟨HB0.out.1.below hb2, HB0.out.2.1.below hb2, HB0.out.2.2.trans (hb2.mono HB0.out.2.2.size)⟩; clear hb2 x0 x1 x2 x3 xf0 xf1 xf2 xf3; have x0 := HB1.out.2.1.at (i := 0) (by decide); have xf0 := HB1.out.2.1.free 0; have x1 := HB1.out.2.1.at (i := 1) (by decide); have xf1 := HB1.out.2.1.free 1; have x2 := HB1.out.2.1.at (i := 2) (by decide); have xf2 := HB1.out.2.1.free 2; have x3 := HB1.out.2.1.at (i := 3) (by decide); have xf3 := HB1.out.2.1.free 3)
      all_goals
        go_wp2
        refine ⟨?_, ?measure⟩
        case measure => simp [intOf]; omega
        have HN := Lib.hid (set4_two HB1.out.1 HB1.out.2.1 HB1.out.2.2 (by omega) (by omega) Y)
        first
          | exact ⟨k + 1, by go_num, by omega, by rw [HY.out.1]; exact HN⟩
          | ((repeat apply Exists.intro); exact ⟨⟨k + 1, by go_num, by omega, by rw [HY.out.1]; exact HN⟩, rfl⟩)
    · obtain rfl : k = s.size := by omega
      have HC := Lib.hid HB.out
      have e : s.data.toList.take s.size = s.data.toList := List.take_of_length_le (by simp)
      rw [e, HF.out] at HC
      clear e HB
      have x0 := HC.out.2.1.at (i := 0) (by decide)
      have x1 := HC.out.2.1.at (i := 1) (by decide)
      have x2 := HC.out.2.1.at (i := 2) (by decide)
      have x3 := HC.out.2.1.at (i := 3) (by decide)
      have d0 := HC.out.1.at (i := 0) (by decide)
      have d1 := HC.out.1.at (i := 1) (by decide)
      have d2 := HC.out.1.at (i := 2) (by decide)
      have d3 := HC.out.1.at (i := 3) (by decide)
      have df0 := HC.out.1.free 0
      have df1 := HC.out.1.free 1
      have df2 := HC.out.1.free 2
      have df3 := HC.out.1.free 3
      go_wp2
      have hr := Lib.hid (HC.out.1.res HC.out.2.2 (Nat.le_refl _) F)
      clear x0 x1 x2 x3 d0 d1 d2 d3 df0 df1 df2 df3 HC
      revert hr
      generalize (((wr.setCell ⟨w.heap.size, 0, none⟩ (.int .u64 (Cs.wd F 0))).setCell ⟨w.heap.size, 1, none⟩ (.int .u64 (Cs.wd F 1))).setCell ⟨w.heap.size, 2, none⟩ (.int .u64 (Cs.wd F 2))).setCell ⟨w.heap.size, 3, none⟩ (.int .u64 (Cs.wd F 3)) = W2
      intro hr
      have c0 := hr.out.1.at (i := 0) (by decide)
      have c1 := hr.out.1.at (i := 1) (by decide)
      have c2 := hr.out.1.at (i := 2) (by decide)
      have c3 := hr.out.1.at (i := 3) (by decide)
      refine bodyPost_ret (v := .agg #[.int .u64 (Cs.wd F 0), .int .u64 (Cs.wd F 1), .int .u64 (Cs.wd F 2), .int .u64 (Cs.wd F 3)]) (by simp [results, Try.results41, go_sem, c0, c1, c2, c3]) rfl ?_
      exact ⟨rfl, hr.out.2⟩
set_option maxRecDepth 20000 in
set_option maxHeartbeats 1000000 in
theorem cs_span (a b : Nat) (ha : a < 256) (hb : b < 256) (w : World) :
    Calls Try.prog 51 #[.int .u8 a, .int .u8 b] w fun e w' => e = .returned (Cs.sv (Cs.span a b)) ∧ Below w.heap.size w w' := by
  obtain ⟨f, hf⟩ : ∃ f : Nat → Bool, (fun i => decide (a ≤ i) && decide (i ≤ b)) = f := ⟨_, rfl⟩
  have HF := Lib.hid hf
  unfold Cs.span
  rw [hf]
  clear hf
  obtain ⟨F, hF⟩ : ∃ F, Cs.mkN f 256 = F := ⟨_, rfl⟩
  rw [hF]
  have HFF := Lib.hid hF
  clear hF
  have hc : Hid (SB ((w.alloc (.cells #[.int .u64 0, .int .u64 0, .int .u64 0, .int .u64 0] 67)).alloc (.cells #[.int .u64 0, .int .u64 0, .int .u64 0, .int .u64 0] 67)) w.heap.size 0 ∧ SB ((w.alloc (.cells #[.int .u64 0, .int .u64 0, .int .u64 0, .int .u64 0] 67)).alloc (.cells #[.int .u64 0, .int .u64 0, .int .u64 0, .int .u64 0] 67)) (w.heap.size + 1) 0 ∧ Below w.heap.size w ((w.alloc (.cells #[.int .u64 0, .int .u64 0, .int .u64 0, .int .u64 0] 67)).alloc (.cells #[.int .u64 0, .int .u64 0, .int .u64 0, .int .u64 0] 67))) :=
    Lib.hid ⟨(SB.zero w).alloc _, by have := SB.zero (w.alloc (.cells #[.int .u64 0, .int .u64 0, .int .u64 0, .int .u64 0] 67)); simpa using this, ((Below.refl _ _).alloc (Nat.le_refl _) _).alloc (by simp) _⟩
  go_enter Try.func51, Try.ntmps51
  go_upto_region 2 with fail
  revert hc
  generalize (w.alloc (.cells #[.int .u64 0, .int .u64 0, .int .u64 0, .int .u64 0] 67)).alloc (.cells #[.int .u64 0, .int .u64 0, .int .u64 0, .int .u64 0] 67) = W
  intro hc
  go_wp2
  go_loopw [7] (fun i wr => ∃ k : Nat, i = .int .i64 k ∧ k ≤ 256 ∧ Hid (SB wr w.heap.size 0 ∧ SB wr (w.heap.size + 1) (Cs.mkN f k) ∧ Below w.heap.size w wr)) (fun i _ => 256 - (intOf i).toNat)
  case atStart => exact ⟨0, rfl, by omega, Lib.hid hc.out⟩
  case round =>
    clear hc
    obtain ⟨k, rfl, hk, HB⟩ := hrel
    have i0 : (0 : Int) ≤ (k : Int) := by omega
    by_cases hkl : k < 256
    · by_cases hin : a ≤ k ∧ k ≤ b
      · obtain ⟨X, hX⟩ : ∃ X, Cs.mkN f k = X := ⟨_, rfl⟩
        obtain ⟨Y, hY⟩ : ∃ Y, X ||| Cs.bitS k = Y := ⟨_, rfl⟩
        have HB0 := HB
        rw [hX] at HB0
        have HY : Hid (Cs.mkN f (k + 1) = Y ∧ X ||| Cs.bitS k = Y) := Lib.hid ⟨by
          rw [← hY, ← hX, Cs.mkN, ← HF.out]; simp [hin.1, hin.2], hY⟩
        have i1 := hin.1
        have i2 := hin.2
        have cw : IntKind.u8.wrap (k : Int) = k := by simp [IntKind.wrap, IntKind.signed, IntKind.bits]; omega
        clear hX hY HB hin
        have x0 := HB0.out.2.1.at (i := 0) (by decide)
        have x1 := HB0.out.2.1.at (i := 1) (by decide)
        have x2 := HB0.out.2.1.at (i := 2) (by decide)
        have x3 := HB0.out.2.1.at (i := 3) (by decide)
        have xf0 := HB0.out.2.1.free 0
        have xf1 := HB0.out.2.1.free 1
        have xf2 := HB0.out.2.1.free 2
        have xf3 := HB0.out.2.1.free 3
        go_wp2_with (go_at_call 46; rw [sv_def X]; refine (cs_with X k (by omega) _).mono ?_; rintro e w2 ⟨rfl, hb2⟩; rw [HY.out.2]; unfold Cs.sv; have HB1 : Hid (SB w2 w.heap.size 0 ∧ SB w2 (w.heap.size + 1) X ∧ Below w.heap.size w w2) := Lib.hid ⟨HB0.out.1.below hb2, HB0.out.2.1.below hb2, HB0.out.2.2.trans (hb2.mono HB0.out.2.2.size)⟩; clear hb2 x0 x1 x2 x3 xf0 xf1 xf2 xf3; have x0 := HB1.out.2.1.at (i := 0) (by decide); have xf0 := HB1.out.2.1.free 0; have x1 := HB1.out.2.1.at (i := 1) (by decide); have xf1 := HB1.out.2.1.free 1; have x2 := HB1.out.2.1.at (i := 2) (by decide); have xf2 := HB1.out.2.1.free 2; have x3 := HB1.out.2.1.at (i := 3) (by decide); have xf3 := HB1.out.2.1.free 3)
        refine ⟨?_, ?measure⟩
        case measure => simp [intOf]; omega
        have HN := Lib.hid (set4_two HB1.out.1 HB1.out.2.1 HB1.out.2.2 (by omega) (by omega) Y)
        first
          | exact ⟨k + 1, by go_num, by omega, by rw [HY.out.1]; exact HN⟩
          | ((repeat apply Exists.intro); exact ⟨⟨k + 1, by go_num, by omega, by rw [HY.out.1]; exact HN⟩, rfl⟩)
      · have HY : Hid (Cs.mkN f (k + 1) = Cs.mkN f k) := Lib.hid (by
          have : f k = false := by rw [← HF.out]; simp; omega
          rw [Cs.mkN, this]; simp)
        by_cases h1 : a ≤ k
        · have h2 : ¬ k ≤ b := fun h => hin ⟨h1, h⟩
          clear hin
          go_wp2
          refine ⟨?_, ?measure⟩
          case measure => simp [intOf]; omega
          first
            | exact ⟨k + 1, by go_num, by omega, by rw [HY.out]; exact HB⟩
            | ((repeat apply Exists.intro); exact ⟨⟨k + 1, by go_num, by omega, by rw [HY.out]; exact HB⟩, rfl⟩)
        · clear hin
          go_wp2
          refine ⟨?_, ?measure⟩
          case measure => simp [intOf]; omega
          first
            | exact ⟨k + 1, by go_num, by omega, by rw [HY.out]; exact HB⟩
            | ((repeat apply Exists.intro); exact ⟨⟨k + 1, by go_num, by omega, by rw [HY.out]; exact HB⟩, rfl⟩)
    · obtain rfl : k = 256 := by omega
      have HC := HB
      rw [HFF.out] at HC
      clear HB
      have x0 := HC.out.2.1.at (i := 0) (by decide)
      have x1 := HC.out.2.1.at (i := 1) (by decide)
      have x2 := HC.out.2.1.at (i := 2) (by decide)
      have x3 := HC.out.2.1.at (i := 3) (by decide)
      have d0 := HC.out.1.at (i := 0) (by decide)
      have d1 := HC.out.1.at (i := 1) (by decide)
      have d2 := HC.out.1.at (i := 2) (by decide)
      have d3 := HC.out.1.at (i := 3) (by decide)
      have df0 := HC.out.1.free 0
      have df1 := HC.out.1.free 1
      have df2 := HC.out.1.free 2
      have df3 := HC.out.1.free 3
      go_wp2
      have hr := Lib.hid (HC.out.1.res HC.out.2.2 (Nat.le_refl _) F)
      clear x0 x1 x2 x3 d0 d1 d2 d3 df0 df1 df2 df3 HC
      revert hr
      generalize (((wr.setCell ⟨w.heap.size, 0, none⟩ (.int .u64 (Cs.wd F 0))).setCell ⟨w.heap.size, 1, none⟩ (.int .u64 (Cs.wd F 1))).setCell ⟨w.heap.size, 2, none⟩ (.int .u64 (Cs.wd F 2))).setCell ⟨w.heap.size, 3, none⟩ (.int .u64 (Cs.wd F 3)) = W2
      intro hr
      have c0 := hr.out.1.at (i := 0) (by decide)
      have c1 := hr.out.1.at (i := 1) (by decide)
      have c2 := hr.out.1.at (i := 2) (by decide)
      have c3 := hr.out.1.at (i := 3) (by decide)
      refine bodyPost_ret (v := .agg #[.int .u64 (Cs.wd F 0), .int .u64 (Cs.wd F 1), .int .u64 (Cs.wd F 2), .int .u64 (Cs.wd F 3)]) (by simp [results, Try.results51, go_sem, c0, c1, c2, c3]) rfl ?_
      exact ⟨rfl, hr.out.2⟩
end Go.Proofs.Ytoniipmgkoogbaa
