/- The document's own answers on sets of bytes: the set of those of which a row says so. -/
import Derived.Test.YtkihlnomchhiiaaCsR
namespace Go.Proofs.Ytkihlnomchhiiaa
open Go.ChangeShapes Go.WideShapes Go.ChangeAt Go.RowKit
set_option linter.unusedSimpArgs false
set_option linter.unusedVariables false

theorem Rw.below {w w' : World} {g cap : Nat} {L : List Value} {T : TypeId} (h : Rw w g cap L T) (k : Below w.heap.size w w') : Rw w' g cap L T := by
  obtain ⟨r, h1, h2, h3⟩ := h; exact ⟨r, h1, h2, h3.below k h3.lt⟩
theorem SB.at' {w : World} {B : Nat} {X : BitVec 256} (h : SB w B X) {i : Nat} (hi : i < 4) {v : Int} (hv : Cs.wd X i = v) : w.cell? ⟨B, i, none⟩ = some (.int .u64 v) := by rw [← hv]; exact h.at hi
set_option maxRecDepth 20000 in
set_option maxHeartbeats 1000000 in
theorem rf_make (f : Nat → Bool) (g cap n : Nat) (w : World) (h : Rw w g cap (bl f 256) 4) (hn : 256 ≤ n) :
    Calls Try.prog 30 #[.slice (some ⟨g, 0, none⟩) n cap] w fun e w' => e = .returned (Cs.sv (Cs.mkN f 256)) ∧ Below w.heap.size w w' := by
  obtain ⟨F, hF⟩ : ∃ F, Cs.mkN f 256 = F := ⟨_, rfl⟩
  have HF := Lib.hid hF
  have HW := Lib.hid h
  rw [hF]
  have word : Hid (∀ i, (Cs.wb F i).toNat < 256 ^ 8) := Lib.hid (fun i => by
    have := (Cs.wb F i).isLt
    have e : 256 ^ 8 = 18446744073709551616 := by decide
    omega)
  clear hF h
  have hc : Hid (SB ((w.alloc (.cells #[.int .u64 0, .int .u64 0, .int .u64 0, .int .u64 0] 38)).alloc (.cells #[.int .u64 0, .int .u64 0, .int .u64 0, .int .u64 0] 38)) w.heap.size 0 ∧ SB ((w.alloc (.cells #[.int .u64 0, .int .u64 0, .int .u64 0, .int .u64 0] 38)).alloc (.cells #[.int .u64 0, .int .u64 0, .int .u64 0, .int .u64 0] 38)) (w.heap.size + 1) 0 ∧ Below w.heap.size w ((w.alloc (.cells #[.int .u64 0, .int .u64 0, .int .u64 0, .int .u64 0] 38)).alloc (.cells #[.int .u64 0, .int .u64 0, .int .u64 0, .int .u64 0] 38))) :=
    Lib.hid ⟨(SB.zero w).alloc _, by have := SB.zero (w.alloc (.cells #[.int .u64 0, .int .u64 0, .int .u64 0, .int .u64 0] 38)); simpa using this, ((Below.refl _ _).alloc (Nat.le_refl _) _).alloc (by simp) _⟩
  go_enter Try.func30, Try.ntmps30
  go_upto_region 2 with fail
  revert hc
  generalize (w.alloc (.cells #[.int .u64 0, .int .u64 0, .int .u64 0, .int .u64 0] 38)).alloc (.cells #[.int .u64 0, .int .u64 0, .int .u64 0, .int .u64 0] 38) = W
  intro hc
  go_wp2
  go_loopw [4] (fun i wr => ∃ (a : Nat) (M : BitVec 256), i = .int .i64 a ∧ a ≤ 4 ∧ Hid (Cs.WS M a 0 F) ∧ Hid (SB wr w.heap.size 0 ∧ SB wr (w.heap.size + 1) M ∧ Below w.heap.size w wr)) (fun i _ => 4 - (intOf i).toNat)
  case atStart => exact ⟨0, 0, rfl, by omega, Lib.hid (Cs.WS.start F), hc⟩
  case round =>
    clear hc
    obtain ⟨a, M, rfl, ha, HM, HB⟩ := hrel
    have j0 : (0 : Int) ≤ (a : Int) := by omega
    by_cases hal : a < 4
    · go_wp2
      obtain ⟨N, hN⟩ : ∃ N, (Cs.wb F a).toNat = N := ⟨_, rfl⟩
      have HN : Hid ((Cs.wb F a).toNat = N ∧ N < 256 ^ 8) := Lib.hid ⟨hN, hN ▸ word.out a⟩
      clear hN
      go_loopw [5] (fun i wr => ∃ (j : Nat) (M : BitVec 256), i = .int .i64 ((j : Int) - 1) ∧ j ≤ 64 ∧ Hid (Cs.WS M a ((N / 2 ^ j : Nat) : Int) F) ∧ Hid (SB wr w.heap.size 0 ∧ SB wr (w.heap.size + 1) M ∧ Below w.heap.size w wr)) (fun i _ => ((intOf i) + 1).toNat)
      case atStart => exact ⟨64, M, by rfl, by omega, (by
        have : N / 2 ^ 64 = 0 := by
          have h := HN.out.2
          have e : 256 ^ 8 = 2 ^ 64 := by decide
          rw [e] at h
          exact Nat.div_eq_of_lt h
        rw [this]; exact HM), HB⟩
      case round =>
        clear HM HB
        obtain ⟨j, M, rfl, hj, HM, HB⟩ := hrel
        by_cases hjl : 0 < j
        · obtain ⟨k, rfl⟩ : ∃ k, j = k + 1 := ⟨j - 1, by omega⟩
          have e0 : (((k + 1 : Nat) : Int) - 1) = (k : Int) := by omega
          rw [e0]
          have k0 : (0 : Int) ≤ (k : Int) := by omega
          obtain ⟨x, hx⟩ : ∃ x, N / 2 ^ (k + 1) = x := ⟨_, rfl⟩
          obtain ⟨z, hz⟩ : ∃ z, N / 2 ^ k = z := ⟨_, rfl⟩
          obtain ⟨q, hq⟩ : ∃ q, 64 * a + k = q := ⟨_, rfl⟩
          obtain ⟨y, hy⟩ : ∃ y, 2 * x = y := ⟨_, rfl⟩
          have hzx : z = y + (if f q then 1 else 0) := by
            have := Cs.half f a k hal (by omega)
            rw [HF.out, HN.out.1, hx, hz, hq, hy] at this
            exact this
          have hzl : z < 18446744073709551616 := by
            have h := HN.out.2
            have e : 256 ^ 8 = 18446744073709551616 := by decide
            have := Nat.div_le_self N (2 ^ k)
            omega
          have hyz : y ≤ z := by omega
          have HM0 : Hid (Cs.WS M a (x : Int) F) := Lib.hid (by have := HM.out; rw [hx] at this; exact this)
          obtain ⟨M2, m1, m2⟩ := HM0.out.set hal (y : Int) (by omega) (by omega)
          obtain ⟨M3, m3, m4⟩ := m2.set hal (z : Int) (by omega) (by omega)
          have HB2 : Hid (SB (wr.setCell ⟨w.heap.size + 1, a, none⟩ (.int .u64 y)) w.heap.size 0 ∧ SB (wr.setCell ⟨w.heap.size + 1, a, none⟩ (.int .u64 y)) (w.heap.size + 1) M2 ∧ Below w.heap.size w (wr.setCell ⟨w.heap.size + 1, a, none⟩ (.int .u64 y))) := Lib.hid ⟨HB.out.1.other (by omega) _ _, HB.out.2.1.word m1, below_set HB.out.2.2 (by omega) _ _⟩
          have HZ : Hid (N / 2 ^ k = z) := Lib.hid hz
          have c1 := HB.out.2.1.at' hal (HM0.out.here hal)
          have f1 := HB.out.2.1.free a
          have s1 : IntKind.u64.wrap (2 * (x : Int)) = (y : Int) := by
            have := nat_u64 y (by have e : 256 ^ 8 = 18446744073709551616 := by decide
                                  omega)
            rw [← hy] at this ⊢; simpa using this
          have s2 : IntKind.i64.wrap (64 * (a : Int)) = 64 * (a : Int) := IntWalk.i64_in _ (by omega)
          have s3 : IntKind.i64.wrap (64 * (a : Int) + k) = (q : Int) := by rw [show 64 * (a : Int) + k = (q : Int) by omega]; exact IntWalk.i64_in _ (by omega)
          have s4 : IntKind.i64.wrap ((k : Int) - 1) = (k : Int) - 1 := IntWalk.i64_in _ (by omega)
          have qn : q < n := by omega
          have HR2 := Lib.hid ((HW.out.below HB2.out.2.2).cell (bl_at f (i := q) (by omega)))
          have HMM := Lib.hid (And.intro m2 (And.intro m3 m4))
          clear m1 m2 m3 m4 hx hz hq hy HM HM0
          go_upto_region 9 with fail
          clear c1 f1 HB
          revert HB2 HR2
          generalize wr.setCell ⟨w.heap.size + 1, a, none⟩ (.int .u64 y) = W2
          intro HB2 HR2
          have c2 := HR2.out
          cases hfq : f q
          · rw [hfq] at c2 hzx
            simp only [Bool.false_eq_true, if_false, Nat.add_zero] at hzx
            have HX : Hid (Cs.WS M2 a ((N / 2 ^ k : Nat) : Int) F) := Lib.hid (by rw [HZ.out, hzx]; exact HMM.out.1)
            clear hfq hzx
            go_wp2
            refine ⟨?_, ?measure⟩
            case measure => first | (simp [intOf]; done) | (simp [intOf]; omega)
            first
              | exact ⟨k, M2, rfl, by omega, HX, HB2⟩
              | ((repeat apply Exists.intro); exact ⟨⟨k, M2, rfl, by omega, HX, HB2⟩, rfl⟩)
          · rw [hfq] at c2 hzx
            simp only [if_true] at hzx
            have HX : Hid (Cs.WS M3 a ((N / 2 ^ k : Nat) : Int) F) := Lib.hid (by rw [HZ.out]; exact HMM.out.2.2)
            have HB3 : Hid (SB (W2.setCell ⟨w.heap.size + 1, a, none⟩ (.int .u64 z)) w.heap.size 0 ∧ SB (W2.setCell ⟨w.heap.size + 1, a, none⟩ (.int .u64 z)) (w.heap.size + 1) M3 ∧ Below w.heap.size w (W2.setCell ⟨w.heap.size + 1, a, none⟩ (.int .u64 z))) := Lib.hid ⟨HB2.out.1.other (by omega) _ _, HB2.out.2.1.word HMM.out.2.1, below_set HB2.out.2.2 (by omega) _ _⟩
            have c3 := HB2.out.2.1.at' hal (HMM.out.1.here hal)
            have f3 := HB2.out.2.1.free a
            have s5 : IntKind.u64.wrap ((y : Int) + 1) = (z : Int) := by
              have := nat_u64 z (by have e : 256 ^ 8 = 18446744073709551616 := by decide
                                    omega)
              rw [hzx] at this ⊢; simpa using this
            clear hfq hzx
            go_wp2
            refine ⟨?_, ?measure⟩
            case measure => first | (simp [intOf]; done) | (simp [intOf]; omega)
            first
              | exact ⟨k, M3, rfl, by omega, HX, HB3⟩
              | ((repeat apply Exists.intro); exact ⟨⟨k, M3, rfl, by omega, HX, HB3⟩, rfl⟩)
        · obtain rfl : j = 0 := by omega
          have HX : Hid (Cs.WS M (a + 1) 0 F) := Lib.hid (HM.out.next (by simp only [Nat.pow_zero, Nat.div_one]; rw [← HN.out.1]; rfl))
          go_wp2
          refine ⟨?_, ?measure⟩
          case measure => first | (simp [intOf]; done) | (simp [intOf]; omega)
          first
            | exact ⟨a + 1, M, by go_num, by omega, HX, HB⟩
            | ((repeat apply Exists.intro); exact ⟨⟨a + 1, M, by go_num, by omega, HX, HB⟩, rfl⟩)
    · obtain rfl : a = 4 := by omega
      obtain rfl := HM.out.stop
      have HC := HB
      have x0 := HC.out.2.1.at (i := 0) (by decide)
      have x1 := HC.out.2.1.at (i := 1) (by decide)
      have x2 := HC.out.2.1.at (i := 2) (by decide)
      have x3 := HC.out.2.1.at (i := 3) (by decide)
      have d0 := HC.out.1.at (i := 0) (by decide)
      have d1 := HC.out.1.at (i := 1) (by decide)
      have d2 := HC.out.1.at (i := 2) (by decide)
      have d3 := HC.out.1.at (i := 3) (by decide)
      have df0 := HC.out.1.free 0
      have df1 := HC.out.1.free 1
      have df2 := HC.out.1.free 2
      have df3 := HC.out.1.free 3
      go_wp2
      have hr := Lib.hid (HC.out.1.res HC.out.2.2 (Nat.le_refl _) M)
      clear x0 x1 x2 x3 d0 d1 d2 d3 df0 df1 df2 df3 HC HB
      revert hr
      generalize (((wr.setCell ⟨w.heap.size, 0, none⟩ (.int .u64 (Cs.wd M 0))).setCell ⟨w.heap.size, 1, none⟩ (.int .u64 (Cs.wd M 1))).setCell ⟨w.heap.size, 2, none⟩ (.int .u64 (Cs.wd M 2))).setCell ⟨w.heap.size, 3, none⟩ (.int .u64 (Cs.wd M 3)) = W2
      intro hr
      have c0 := hr.out.1.at (i := 0) (by decide)
      have c1 := hr.out.1.at (i := 1) (by decide)
      have c2 := hr.out.1.at (i := 2) (by decide)
      have c3 := hr.out.1.at (i := 3) (by decide)
      refine bodyPost_ret (v := .agg #[.int .u64 (Cs.wd M 0), .int .u64 (Cs.wd M 1), .int .u64 (Cs.wd M 2), .int .u64 (Cs.wd M 3)]) (by simp [results, Try.results30, go_sem, c0, c1, c2, c3]) rfl ?_
      exact ⟨rfl, hr.out.2⟩
end Go.Proofs.Ytkihlnomchhiiaa
