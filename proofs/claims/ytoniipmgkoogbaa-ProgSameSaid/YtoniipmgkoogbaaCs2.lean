/- Contracts of sets of bytes: all other bytes, both together, those in both. -/
import Derived.Test.YtoniipmgkoogbaaCs
namespace Go.Proofs.Ytoniipmgkoogbaa
open Go.ChangeShapes Go.WideShapes Go.ChangeAt Go.RowKit
set_option linter.unusedSimpArgs false
set_option linter.unusedVariables false

theorem SB.word {w : World} {B : Nat} {M M' : BitVec 256} (h : SB w B M) {k : Nat} {v : Int} (hk : (Cs.cells M).set k (.int .u64 v) = Cs.cells M') : SB (w.setCell ⟨B, k, none⟩ (.int .u64 v)) B M' := by
  have := Blk.set h k (.int .u64 v)
  rw [hk] at this
  exact this
theorem SB.alloc {w : World} {B : Nat} {X : BitVec 256} (h : SB w B X) (o : Obj) : SB (w.alloc o) B X := Blk.alloc h o
theorem SB.drew {w : World} {B : Nat} {X : BitVec 256} (h : SB w B X) : SB w.drew B X := h
theorem SB.below {w w' : World} {B : Nat} {X : BitVec 256} (h : SB w B X) (k : Below w.heap.size w w') : SB w' B X := Blk.below h k h.lt
theorem cs_not (X : BitVec 256) (w : World) :
    Calls Try.prog 44 #[Cs.sv X] w fun e w' => e = .returned (Cs.sv (~~~X)) ∧ Below w.heap.size w w' := by
  have hc : Hid (SB ((w.alloc (.cells #[.int .u64 (Cs.wd X 0), .int .u64 (Cs.wd X 1), .int .u64 (Cs.wd X 2), .int .u64 (Cs.wd X 3)] 67)).alloc (.cells #[.int .u64 0, .int .u64 0, .int .u64 0, .int .u64 0] 67)) w.heap.size X ∧ SB ((w.alloc (.cells #[.int .u64 (Cs.wd X 0), .int .u64 (Cs.wd X 1), .int .u64 (Cs.wd X 2), .int .u64 (Cs.wd X 3)] 67)).alloc (.cells #[.int .u64 0, .int .u64 0, .int .u64 0, .int .u64 0] 67)) (w.heap.size + 1) 0 ∧ Below w.heap.size w ((w.alloc (.cells #[.int .u64 (Cs.wd X 0), .int .u64 (Cs.wd X 1), .int .u64 (Cs.wd X 2), .int .u64 (Cs.wd X 3)] 67)).alloc (.cells #[.int .u64 0, .int .u64 0, .int .u64 0, .int .u64 0] 67))) :=
    Lib.hid ⟨(SB.new w X).alloc _, by have := SB.zero (w.alloc (.cells #[.int .u64 (Cs.wd X 0), .int .u64 (Cs.wd X 1), .int .u64 (Cs.wd X 2), .int .u64 (Cs.wd X 3)] 67)); simpa using this, ((Below.refl _ _).alloc (Nat.le_refl _) _).alloc (by simp) _⟩
  unfold Cs.sv
  go_enter Try.func44, Try.ntmps44
  go_upto_region 1 with fail
  revert hc
  generalize (w.alloc (.cells #[.int .u64 (Cs.wd X 0), .int .u64 (Cs.wd X 1), .int .u64 (Cs.wd X 2), .int .u64 (Cs.wd X 3)] 67)).alloc (.cells #[.int .u64 0, .int .u64 0, .int .u64 0, .int .u64 0] 67) = W
  intro hc
  go_wp2
  go_loopw [4] (fun i wr => ∃ (k : Nat) (M : BitVec 256), i = .int .i64 k ∧ k ≤ 4 ∧ Hid (Cs.Mid M X (~~~X) k ∧ SB wr w.heap.size M ∧ SB wr (w.heap.size + 1) 0 ∧ Below w.heap.size w wr)) (fun i _ => 4 - (intOf i).toNat)
  case atStart => exact ⟨0, X, rfl, by omega, Lib.hid ⟨Cs.Mid.start _ _, hc.out⟩⟩
  case round =>
    clear hc
    obtain ⟨k, M, rfl, hk, HB⟩ := hrel
    have i0 : (0 : Int) ≤ (k : Int) := by omega
    by_cases hkl : k < 4
    · obtain ⟨M2, hm1, hm2⟩ := HB.out.1.step hkl
      have HM := Lib.hid (And.intro hm1 hm2)
      obtain ⟨x, hx⟩ : ∃ x, Cs.wd X k = x := ⟨_, rfl⟩
      obtain ⟨y, hy⟩ : ∃ y, Cs.wd (~~~X) k = y := ⟨_, rfl⟩
      have c := HB.out.2.1.at hkl
      have fc := HB.out.2.1.free k
      rw [HB.out.1.here hkl, hx] at c
      have hb : bits BinOp.xor IntKind.u64 (if IntKind.u64.signed = true then -1 else IntKind.u64.max) x = y := by
        have h := Cs.wd_not X k hkl
        rw [hx, hy] at h
        exact h
      have HY := Lib.hid hy
      clear hm1 hm2 hx hy
      go_wp2
      refine ⟨?_, ?measure⟩
      case measure => simp [intOf]; omega
      have HN : Hid (Cs.Mid M2 X (~~~X) (k + 1) ∧ SB (wr.setCell ⟨w.heap.size, k, none⟩ (.int .u64 y)) w.heap.size M2 ∧ SB (wr.setCell ⟨w.heap.size, k, none⟩ (.int .u64 y)) (w.heap.size + 1) 0 ∧ Below w.heap.size w (wr.setCell ⟨w.heap.size, k, none⟩ (.int .u64 y))) := by
        refine Lib.hid ⟨HM.out.2, ?_, HB.out.2.2.1.other (by omega) _ _, below_set HB.out.2.2.2 (Nat.le_refl _) _ _⟩
        exact HB.out.2.1.word (by rw [← HY.out]; exact HM.out.1)
      first
        | exact ⟨k + 1, M2, by go_num, by omega, HN⟩
        | ((repeat apply Exists.intro); exact ⟨⟨k + 1, M2, by go_num, by omega, HN⟩, rfl⟩)
    · obtain rfl : k = 4 := by omega
      obtain rfl := HB.out.1.stop
      have HC := Lib.hid HB.out.2
      have x0 := HC.out.1.at (i := 0) (by decide)
      have x1 := HC.out.1.at (i := 1) (by decide)
      have x2 := HC.out.1.at (i := 2) (by decide)
      have x3 := HC.out.1.at (i := 3) (by decide)
      have d0 := HC.out.2.1.at (i := 0) (by decide)
      have d1 := HC.out.2.1.at (i := 1) (by decide)
      have d2 := HC.out.2.1.at (i := 2) (by decide)
      have d3 := HC.out.2.1.at (i := 3) (by decide)
      have df0 := HC.out.2.1.free 0
      have df1 := HC.out.2.1.free 1
      have df2 := HC.out.2.1.free 2
      have df3 := HC.out.2.1.free 3
      go_wp2
      have hr := Lib.hid (HC.out.2.1.res HC.out.2.2 (by omega) (~~~X))
      clear x0 x1 x2 x3 d0 d1 d2 d3 df0 df1 df2 df3 HC HB
      revert hr
      generalize (((wr.setCell ⟨w.heap.size + 1, 0, none⟩ (.int .u64 (Cs.wd (~~~X) 0))).setCell ⟨w.heap.size + 1, 1, none⟩ (.int .u64 (Cs.wd (~~~X) 1))).setCell ⟨w.heap.size + 1, 2, none⟩ (.int .u64 (Cs.wd (~~~X) 2))).setCell ⟨w.heap.size + 1, 3, none⟩ (.int .u64 (Cs.wd (~~~X) 3)) = W2
      intro hr
      have c0 := hr.out.1.at (i := 0) (by decide)
      have c1 := hr.out.1.at (i := 1) (by decide)
      have c2 := hr.out.1.at (i := 2) (by decide)
      have c3 := hr.out.1.at (i := 3) (by decide)
      refine bodyPost_ret (v := .agg #[.int .u64 (Cs.wd (~~~X) 0), .int .u64 (Cs.wd (~~~X) 1), .int .u64 (Cs.wd (~~~X) 2), .int .u64 (Cs.wd (~~~X) 3)]) (by simp [results, Try.results44, go_sem, c0, c1, c2, c3]) rfl ?_
      exact ⟨rfl, hr.out.2⟩
set_option maxRecDepth 20000 in
set_option maxHeartbeats 1000000 in
theorem cs_or (X Y : BitVec 256) (w : World) :
    Calls Try.prog 49 #[Cs.sv X, Cs.sv Y] w fun e w' => e = .returned (Cs.sv (X ||| Y)) ∧ Below w.heap.size w w' := by
  have hc : Hid (SB (((w.alloc (.cells #[.int .u64 (Cs.wd X 0), .int .u64 (Cs.wd X 1), .int .u64 (Cs.wd X 2), .int .u64 (Cs.wd X 3)] 67)).alloc (.cells #[.int .u64 (Cs.wd Y 0), .int .u64 (Cs.wd Y 1), .int .u64 (Cs.wd Y 2), .int .u64 (Cs.wd Y 3)] 67)).alloc (.cells #[.int .u64 0, .int .u64 0, .int .u64 0, .int .u64 0] 67)) w.heap.size X ∧ SB (((w.alloc (.cells #[.int .u64 (Cs.wd X 0), .int .u64 (Cs.wd X 1), .int .u64 (Cs.wd X 2), .int .u64 (Cs.wd X 3)] 67)).alloc (.cells #[.int .u64 (Cs.wd Y 0), .int .u64 (Cs.wd Y 1), .int .u64 (Cs.wd Y 2), .int .u64 (Cs.wd Y 3)] 67)).alloc (.cells #[.int .u64 0, .int .u64 0, .int .u64 0, .int .u64 0] 67)) (w.heap.size + 1) Y ∧ SB (((w.alloc (.cells #[.int .u64 (Cs.wd X 0), .int .u64 (Cs.wd X 1), .int .u64 (Cs.wd X 2), .int .u64 (Cs.wd X 3)] 67)).alloc (.cells #[.int .u64 (Cs.wd Y 0), .int .u64 (Cs.wd Y 1), .int .u64 (Cs.wd Y 2), .int .u64 (Cs.wd Y 3)] 67)).alloc (.cells #[.int .u64 0, .int .u64 0, .int .u64 0, .int .u64 0] 67)) (w.heap.size + 1 + 1) 0 ∧ Below w.heap.size w (((w.alloc (.cells #[.int .u64 (Cs.wd X 0), .int .u64 (Cs.wd X 1), .int .u64 (Cs.wd X 2), .int .u64 (Cs.wd X 3)] 67)).alloc (.cells #[.int .u64 (Cs.wd Y 0), .int .u64 (Cs.wd Y 1), .int .u64 (Cs.wd Y 2), .int .u64 (Cs.wd Y 3)] 67)).alloc (.cells #[.int .u64 0, .int .u64 0, .int .u64 0, .int .u64 0] 67))) :=
    Lib.hid ⟨((SB.new w X).alloc _).alloc _, by have := (SB.new (w.alloc (.cells #[.int .u64 (Cs.wd X 0), .int .u64 (Cs.wd X 1), .int .u64 (Cs.wd X 2), .int .u64 (Cs.wd X 3)] 67)) Y).alloc (.cells #[.int .u64 0, .int .u64 0, .int .u64 0, .int .u64 0] 67); simpa using this, by have := SB.zero ((w.alloc (.cells #[.int .u64 (Cs.wd X 0), .int .u64 (Cs.wd X 1), .int .u64 (Cs.wd X 2), .int .u64 (Cs.wd X 3)] 67)).alloc (.cells #[.int .u64 (Cs.wd Y 0), .int .u64 (Cs.wd Y 1), .int .u64 (Cs.wd Y 2), .int .u64 (Cs.wd Y 3)] 67)); simpa using this, (((Below.refl _ _).alloc (Nat.le_refl _) _).alloc (by simp) _).alloc (by simp; omega) _⟩
  unfold Cs.sv
  go_enter Try.func49, Try.ntmps49
  go_upto_region 1 with fail
  revert hc
  generalize ((w.alloc (.cells #[.int .u64 (Cs.wd X 0), .int .u64 (Cs.wd X 1), .int .u64 (Cs.wd X 2), .int .u64 (Cs.wd X 3)] 67)).alloc (.cells #[.int .u64 (Cs.wd Y 0), .int .u64 (Cs.wd Y 1), .int .u64 (Cs.wd Y 2), .int .u64 (Cs.wd Y 3)] 67)).alloc (.cells #[.int .u64 0, .int .u64 0, .int .u64 0, .int .u64 0] 67) = W
  intro hc
  go_wp2
  go_loopw [6] (fun i wr => ∃ (k : Nat) (M : BitVec 256), i = .int .i64 k ∧ k ≤ 4 ∧ Hid (Cs.Mid M X (X ||| Y) k ∧ SB wr w.heap.size M ∧ SB wr (w.heap.size + 1) Y ∧ SB wr (w.heap.size + 1 + 1) 0 ∧ Below w.heap.size w wr)) (fun i _ => 4 - (intOf i).toNat)
  case atStart => exact ⟨0, X, rfl, by omega, Lib.hid ⟨Cs.Mid.start _ _, hc.out⟩⟩
  case round =>
    clear hc
    obtain ⟨k, M, rfl, hk, HB⟩ := hrel
    have i0 : (0 : Int) ≤ (k : Int) := by omega
    by_cases hkl : k < 4
    · obtain ⟨M2, hm1, hm2⟩ := HB.out.1.step hkl
      have HM := Lib.hid (And.intro hm1 hm2)
      obtain ⟨x, hx⟩ : ∃ x, Cs.wd X k = x := ⟨_, rfl⟩
      obtain ⟨z, hz⟩ : ∃ z, Cs.wd Y k = z := ⟨_, rfl⟩
      obtain ⟨y, hy⟩ : ∃ y, Cs.wd (X ||| Y) k = y := ⟨_, rfl⟩
      have hb := Cs.wd_or X Y k
      rw [hx, hz, hy] at hb
      have HY := Lib.hid hy
      have HN : Hid (Cs.Mid M2 X (X ||| Y) (k + 1) ∧ SB (wr.drew.setCell ⟨w.heap.size, k, none⟩ (.int .u64 y)) w.heap.size M2 ∧ SB (wr.drew.setCell ⟨w.heap.size, k, none⟩ (.int .u64 y)) (w.heap.size + 1) Y ∧ SB (wr.drew.setCell ⟨w.heap.size, k, none⟩ (.int .u64 y)) (w.heap.size + 1 + 1) 0 ∧ Below w.heap.size w (wr.drew.setCell ⟨w.heap.size, k, none⟩ (.int .u64 y))) := by
        refine Lib.hid ⟨HM.out.2, ?_, HB.out.2.2.1.drew.other (by omega) _ _, HB.out.2.2.2.1.drew.other (by omega) _ _, below_set HB.out.2.2.2.2.drew (Nat.le_refl _) _ _⟩
        exact HB.out.2.1.drew.word (by rw [← HY.out]; exact HM.out.1)
      have c := HB.out.2.1.drew.at hkl
      have cz := HB.out.2.2.1.drew.at hkl
      have fc := HB.out.2.1.drew.free k
      have l0 := HB.out.2.1.lt
      have l1 := HB.out.2.2.1.lt
      rw [HB.out.1.here hkl, hx] at c
      rw [hz] at cz
      clear hm1 hm2 hx hy hz
      go_wp2_with fail
      go_still_tail 8, (by kernel_rfl)
      go_wp2
      refine ⟨?_, ?measure⟩
      case measure => simp [intOf]; omega
      first
        | exact ⟨k + 1, M2, by go_num, by omega, HN⟩
        | ((repeat apply Exists.intro); exact ⟨⟨k + 1, M2, by go_num, by omega, HN⟩, rfl⟩)
    · obtain rfl : k = 4 := by omega
      obtain rfl := HB.out.1.stop
      have HC := Lib.hid HB.out.2
      have x0 := HC.out.1.at (i := 0) (by decide)
      have x1 := HC.out.1.at (i := 1) (by decide)
      have x2 := HC.out.1.at (i := 2) (by decide)
      have x3 := HC.out.1.at (i := 3) (by decide)
      have d0 := HC.out.2.2.1.at (i := 0) (by decide)
      have d1 := HC.out.2.2.1.at (i := 1) (by decide)
      have d2 := HC.out.2.2.1.at (i := 2) (by decide)
      have d3 := HC.out.2.2.1.at (i := 3) (by decide)
      have df0 := HC.out.2.2.1.free 0
      have df1 := HC.out.2.2.1.free 1
      have df2 := HC.out.2.2.1.free 2
      have df3 := HC.out.2.2.1.free 3
      go_wp2
      have hr := Lib.hid (HC.out.2.2.1.res HC.out.2.2.2 (by omega) (X ||| Y))
      clear x0 x1 x2 x3 d0 d1 d2 d3 df0 df1 df2 df3 HC HB
      revert hr
      generalize (((wr.setCell ⟨w.heap.size + 1 + 1, 0, none⟩ (.int .u64 (Cs.wd (X ||| Y) 0))).setCell ⟨w.heap.size + 1 + 1, 1, none⟩ (.int .u64 (Cs.wd (X ||| Y) 1))).setCell ⟨w.heap.size + 1 + 1, 2, none⟩ (.int .u64 (Cs.wd (X ||| Y) 2))).setCell ⟨w.heap.size + 1 + 1, 3, none⟩ (.int .u64 (Cs.wd (X ||| Y) 3)) = W2
      intro hr
      have c0 := hr.out.1.at (i := 0) (by decide)
      have c1 := hr.out.1.at (i := 1) (by decide)
      have c2 := hr.out.1.at (i := 2) (by decide)
      have c3 := hr.out.1.at (i := 3) (by decide)
      refine bodyPost_ret (v := .agg #[.int .u64 (Cs.wd (X ||| Y) 0), .int .u64 (Cs.wd (X ||| Y) 1), .int .u64 (Cs.wd (X ||| Y) 2), .int .u64 (Cs.wd (X ||| Y) 3)]) (by simp [results, Try.results49, go_sem, c0, c1, c2, c3]) rfl ?_
      exact ⟨rfl, hr.out.2⟩
end Go.Proofs.Ytoniipmgkoogbaa
