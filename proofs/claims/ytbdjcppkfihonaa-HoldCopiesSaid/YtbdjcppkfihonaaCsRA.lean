/- Several texts in one. -/
import Derived.Test.YtbdjcppkfihonaaCs11
/- The document's own answers on sets of bytes: whether a byte is in one, and the row of all. -/
namespace Go.Proofs.Ytbdjcppkfihonaa
open Go.ChangeShapes Go.WideShapes Go.ChangeAt Go.RowKit
set_option linter.unusedSimpArgs false
set_option linter.unusedVariables false

theorem has_nat (X : BitVec 256) (b : Nat) (hb : b < 256) : ((Cs.wb X (b / 64)).toNat / 2 ^ (b % 64)) % 2 = if X.getLsbD b then 1 else 0 := by
  have h := Cs.has_shift X b hb
  have e : ((Cs.wd X (b / 64) / 2 ^ (b % 64)) % 2 : Int) = (((Cs.wb X (b / 64)).toNat / 2 ^ (b % 64) % 2 : Nat) : Int) := by simp [Cs.wd]
  rw [e] at h
  generalize (Cs.wb X (b / 64)).toNat / 2 ^ (b % 64) % 2 = z at h ⊢
  cases hx : X.getLsbD b
  · rw [hx] at h; simp only [Bool.false_eq_true, if_false] at h ⊢; omega
  · rw [hx] at h; simp only [if_true] at h ⊢; omega
set_option maxRecDepth 20000 in
theorem rf_has (X : BitVec 256) (b : Nat) (hb : b < 256) (r : Bool) (hr : X.getLsbD b = r) (w : World) :
    Calls Try.prog 97 #[Cs.sv X, .int .i64 b] w fun e w' => e = .returned (.bool r) ∧ Below w.heap.size w w' := by
  obtain ⟨i, hi⟩ : ∃ i, b / 64 = i := ⟨_, rfl⟩
  obtain ⟨m, hm⟩ : ∃ m, b % 64 = m := ⟨_, rfl⟩
  have q1 : (b : Int).tdiv 64 = (i : Int) := by rw [← hi]; exact tdiv_nat b 64
  have q2 : (b : Int).tmod 64 = (m : Int) := by rw [← hm]; exact tmod_nat b 64
  have q3 : IntKind.i64.wrap (i : Int) = i := IntWalk.i64_in _ (by omega)
  have i4 : i < 4 := by omega
  have m64 : m < 64 := by omega
  obtain ⟨N, hN⟩ : ∃ N, (Cs.wb X i).toNat = N := ⟨_, rfl⟩
  have HH : Hid (N / 2 ^ m % 2 = if r then 1 else 0) := Lib.hid (by rw [← hr, ← has_nat X b hb, hi, hm, hN])
  have HN : Hid (N < 256 ^ 8) := Lib.hid (by
    have := (Cs.wb X i).isLt
    have e : 256 ^ 8 = 18446744073709551616 := by decide
    omega)
  have hx : Cs.wd X i = (N : Int) := by unfold Cs.wd; rw [hN]
  have hc : Hid (SB (w.alloc (.cells #[.int .u64 (Cs.wd X 0), .int .u64 (Cs.wd X 1), .int .u64 (Cs.wd X 2), .int .u64 (Cs.wd X 3)] 154)) w.heap.size X ∧ Below w.heap.size w (w.alloc (.cells #[.int .u64 (Cs.wd X 0), .int .u64 (Cs.wd X 1), .int .u64 (Cs.wd X 2), .int .u64 (Cs.wd X 3)] 154))) := Lib.hid ⟨SB.new w X, (Below.refl _ _).alloc (Nat.le_refl _) _⟩
  unfold Cs.sv
  clear hr hi hm hN
  go_enter Try.func97, Try.ntmps97
  go_upto_region 1 with fail
  revert hc
  generalize w.alloc (.cells #[.int .u64 (Cs.wd X 0), .int .u64 (Cs.wd X 1), .int .u64 (Cs.wd X 2), .int .u64 (Cs.wd X 3)] 154) = W
  intro hc
  have c := hc.out.1.at i4
  rw [hx] at c
  clear hx
  go_wp2
  clear q1 q2 q3 c
  go_loopw [5, 6] (fun n i wr => ∃ (k j : Nat), i = .int .i64 k ∧ n = .int .u64 (N / 2 ^ j : Nat) ∧ k + j = m ∧ wr = W) (fun _ i _ => (intOf i).toNat)
  case atStart => exact ⟨m, 0, rfl, by simp, by omega, rfl⟩
  case round =>
    obtain ⟨k, j, rfl, rfl, hkj, rfl⟩ := hrel
    obtain ⟨a, ha⟩ : ∃ a, N / 2 ^ j = a := ⟨_, rfl⟩
    have HA := Lib.hid ha
    have hal : Hid (a < 256 ^ 8) := Lib.hid (by rw [← ha]; exact Nat.lt_of_le_of_lt (Nat.div_le_self _ _) HN.out)
    rw [ha]
    clear ha
    by_cases hk : 0 < k
    · have hk0 : (0 : Int) < (k : Int) := by omega
      have t1 : (a : Int).tdiv 2 = ((a / 2 : Nat) : Int) := tdiv_nat a 2
      obtain ⟨a2, ha2⟩ : ∃ a2, a / 2 = a2 := ⟨_, rfl⟩
      rw [ha2] at t1
      have t2 : IntKind.u64.wrap (a2 : Int) = a2 := nat_u64 a2 (by have := hal.out; omega)
      have w1 : IntKind.i64.wrap ((k : Int) - 1) = (k : Int) - 1 := IntWalk.i64_in _ (by omega)
      have HA2 : Hid (N / 2 ^ (j + 1) = a2) := Lib.hid (by rw [Nat.pow_succ, ← Nat.div_div_eq_div_mul, HA.out, ha2])
      clear ha2
      go_wp2
      refine ⟨?_, ?measure⟩
      case measure => simp [intOf]; omega
      first
        | exact ⟨k - 1, j + 1, by congr 1; omega, by rw [HA2.out], by omega, trivial⟩
        | ((repeat apply Exists.intro); exact ⟨⟨k - 1, j + 1, by congr 1; omega, by rw [HA2.out], by omega, rfl⟩, rfl⟩)
    · obtain rfl : k = 0 := by omega
      have t1 : (a : Int).tmod 2 = ((a % 2 : Nat) : Int) := tmod_nat a 2
      have ht : a % 2 = if r then 1 else 0 := by rw [← HA.out, ← HH.out]; congr 3; omega
      rw [ht] at t1
      cases r
      all_goals
        simp only [Bool.false_eq_true, if_false, if_true] at t1
        go_wp2
        go_ret
        exact ⟨rfl, hc.out.2⟩
theorem infob : (Try.prog.info? 4).map (fun i => (i.zero, i.size, i.bytes)) = some (some (.bool false), 1, 1) := by kernel_rfl
def bl (f : Nat → Bool) (n : Nat) : List Value := (List.range n).map fun i => .bool (f i)
theorem bl_length (f : Nat → Bool) (n : Nat) : (bl f n).length = n := by simp [bl]
theorem bl_snoc (f : Nat → Bool) (n : Nat) : bl f (n + 1) = bl f n ++ [.bool (f n)] := by simp [bl, List.range_succ]
theorem bl_at (f : Nat → Bool) {n i : Nat} (h : i < n) : (bl f n)[i]? = some (.bool (f i)) := by simp [bl, h]
theorem one_b (b : Bool) : ∀ u ∈ [Value.bool b], u.oneCell' = true := by intro u hu; simp at hu; subst hu; rfl
set_option maxRecDepth 20000 in
theorem rf_flags (X : BitVec 256) (w : World) :
    Calls Try.prog 112 #[Cs.sv X] w fun e w' => ∃ g cap, e = .returned (.slice (some ⟨g, 0, none⟩) 256 cap) ∧ w.heap.size ≤ g ∧ Rw w' g cap (bl X.getLsbD 256) 4 ∧ Below w.heap.size w w' := by
  obtain ⟨i0, hi, hz0, hz1, hz2⟩ := info_parts infob
  have HI := Lib.hid hi
  have HI0 := Lib.hid hz0
  have HI1 := Lib.hid hz1
  have HI2 := Lib.hid hz2
  clear hi hz0 hz1 hz2
  have hc : Hid (SB (w.alloc (.cells #[.int .u64 (Cs.wd X 0), .int .u64 (Cs.wd X 1), .int .u64 (Cs.wd X 2), .int .u64 (Cs.wd X 3)] 154)) w.heap.size X ∧ Below w.heap.size w (w.alloc (.cells #[.int .u64 (Cs.wd X 0), .int .u64 (Cs.wd X 1), .int .u64 (Cs.wd X 2), .int .u64 (Cs.wd X 3)] 154))) := Lib.hid ⟨SB.new w X, (Below.refl _ _).alloc (Nat.le_refl _) _⟩
  unfold Cs.sv
  go_enter Try.func112, Try.ntmps112
  go_upto_region 1 with fail
  revert hc
  generalize w.alloc (.cells #[.int .u64 (Cs.wd X 0), .int .u64 (Cs.wd X 1), .int .u64 (Cs.wd X 2), .int .u64 (Cs.wd X 3)] 154) = W
  intro hc
  have HE : Hid (SB (W.alloc (.cells #[] 4)) w.heap.size X ∧ (W.alloc (.cells #[] 4)).ownsRow (w.heap.size + 1) 4 1 (.slice (some ⟨W.heap.size, 0, none⟩) 0 0) 0 (bl X.getLsbD 0) ∧ Below w.heap.size w (W.alloc (.cells #[] 4))) :=
    Lib.hid ⟨hc.out.1.alloc _, World.ownsRow_made W #[] 0 (by have := hc.out.1.lt; omega) (by decide) rfl, hc.out.2.alloc hc.out.2.size _⟩
  clear hc
  go_upto_region 2 with fail
  revert HE
  generalize W.alloc (.cells #[] 4) = W1
  generalize W.heap.size = d
  intro HE
  go_wp2_with fail
  go_loopw [3, 4] (fun v i wr => ∃ k : Nat, i = .int .i64 k ∧ k ≤ 256 ∧ Hid (SB wr w.heap.size X ∧ wr.ownsRow (w.heap.size + 1) 4 1 v k (bl X.getLsbD k) ∧ Below w.heap.size w wr)) (fun _ i _ => 256 - (intOf i).toNat)
  case atStart => exact ⟨0, rfl, by omega, HE⟩
  case round =>
    clear HE
    obtain ⟨k, rfl, hk, HB⟩ := hrel
    have j0 : (0 : Int) ≤ (k : Int) := by omega
    by_cases hkl : k < 256
    · obtain ⟨r, hr⟩ : ∃ r, X.getLsbD k = r := ⟨_, rfl⟩
      have HR := Lib.hid hr
      clear hr
      have x0 := HB.out.1.at (i := 0) (by decide)
      have x1 := HB.out.1.at (i := 1) (by decide)
      have x2 := HB.out.1.at (i := 2) (by decide)
      have x3 := HB.out.1.at (i := 3) (by decide)
      go_wp2_with (first
        | (go_at_call 97; rw [sv_def X]; refine (rf_has X k hkl r HR.out _).mono ?_; rintro e w2 ⟨rfl, hb2⟩; have HB1 : Hid (SB w2 w.heap.size X ∧ w2.ownsRow (w.heap.size + 1) 4 1 u3 k (bl X.getLsbD k) ∧ Below w.heap.size w w2) := Lib.hid ⟨HB.out.1.below hb2, own_below HB.out.2.1 hb2, HB.out.2.2.trans (hb2.mono HB.out.2.2.size)⟩; clear hb2)
        | (at_builtin; refine wpList_append_own _ rfl _ _ 161 rfl (w.heap.size + 1) 4 i0 (.bool false) 1 1 Try.underlying161 HI.out HI0.out HI1.out HI2.out rfl (by decide) _ _ _ rfl (HB1.out.2.1.alloc _) ⟨w2.heap.size, 0, none⟩ 1 1 [.bool r] rfl rfl (one_new _ _ _) (one_b _) (by unfold maxLen; omega) (by omega) (by have := HB1.out.1.lt; simp; omega) ?_))
      intro v' w3 hown hgrow _
      have HN : Hid (SB w3 w.heap.size X ∧ w3.ownsRow (w.heap.size + 1) 4 1 v' (k + 1) (bl X.getLsbD (k + 1)) ∧ Below w.heap.size w w3) := by
        have hlt := HB1.out.1.lt
        have hb1 : Below (w.heap.size + 1) w2 w3 := ((Below.refl _ _).alloc (by omega) _).grown hgrow (by simp; omega) (fun q hq => (HB1.out.2.1.lt q hq).1)
        refine Lib.hid ⟨Blk.below HB1.out.1 hb1 (by omega), ?_, HB1.out.2.2.trans (hb1.mono (by omega))⟩
        rw [bl_snoc, HR.out]; exact hown
      clear hown hgrow
      go_wp2
      refine ⟨?_, ?measure⟩
      case measure => simp [intOf]; omega
      first
        | exact ⟨k + 1, by go_num, by omega, HN⟩
        | ((repeat apply Exists.intro); exact ⟨⟨k + 1, by go_num, by omega, HN⟩, rfl⟩)
    · obtain rfl : k = 256 := by omega
      go_wp2
      go_ret
      have hv : u3 ≠ .slice none 0 0 := by
        rcases HB.out.2.1.2 with ⟨_, h⟩ | ⟨g, cap, cur, h, _⟩
        · omega
        · rw [h]; simp
      obtain ⟨g, cap, h1, h2, h3, _⟩ := Rw.of_own HB.out.2.1 hv
      exact ⟨g, cap, by rw [← h1]; rfl, by omega, h3, HB.out.2.2⟩
theorem rf_none (w : World) :
    Calls Try.prog 102 #[] w fun e w' => ∃ g cap, e = .returned (.slice (some ⟨g, 0, none⟩) 256 cap) ∧ w.heap.size ≤ g ∧ Rw w' g cap (bl (fun _ => false) 256) 4 ∧ Below w.heap.size w w' := by
  have hz : bl (0 : BitVec 256).getLsbD 256 = bl (fun _ => false) 256 := by simp [bl]
  go_enter Try.func102, Try.ntmps102
  go_wp2_with (go_at_call 112; rw [sv_zero]; refine (rf_flags 0 _).mono ?_; rintro e w2 ⟨g, cap, rfl, h1, h2, h3⟩; rw [hz] at h2)
  go_ret
  exact ⟨g, cap, rfl, h1, h2, h3⟩
end Go.Proofs.Ytbdjcppkfihonaa
/- The document's own answers on sets of bytes: the set of those of which a row says so. -/
namespace Go.Proofs.Ytbdjcppkfihonaa
open Go.ChangeShapes Go.WideShapes Go.ChangeAt Go.RowKit
set_option linter.unusedSimpArgs false
set_option linter.unusedVariables false

theorem Rw.below {w w' : World} {g cap : Nat} {L : List Value} {T : TypeId} (h : Rw w g cap L T) (k : Below w.heap.size w w') : Rw w' g cap L T := by
  obtain ⟨r, h1, h2, h3⟩ := h; exact ⟨r, h1, h2, h3.below k h3.lt⟩
theorem SB.at' {w : World} {B : Nat} {X : BitVec 256} (h : SB w B X) {i : Nat} (hi : i < 4) {v : Int} (hv : Cs.wd X i = v) : w.cell? ⟨B, i, none⟩ = some (.int .u64 v) := by rw [← hv]; exact h.at hi
set_option maxRecDepth 20000 in
set_option maxHeartbeats 1000000 in
theorem rf_make (f : Nat → Bool) (g cap n : Nat) (w : World) (h : Rw w g cap (bl f 256) 4) (hn : 256 ≤ n) :
    Calls Try.prog 105 #[.slice (some ⟨g, 0, none⟩) n cap] w fun e w' => e = .returned (Cs.sv (Cs.mkN f 256)) ∧ Below w.heap.size w w' := by
  obtain ⟨F, hF⟩ : ∃ F, Cs.mkN f 256 = F := ⟨_, rfl⟩
  have HF := Lib.hid hF
  have HW := Lib.hid h
  rw [hF]
  have word : Hid (∀ i, (Cs.wb F i).toNat < 256 ^ 8) := Lib.hid (fun i => by
    have := (Cs.wb F i).isLt
    have e : 256 ^ 8 = 18446744073709551616 := by decide
    omega)
  clear hF h
  have hc : Hid (SB ((w.alloc (.cells #[.int .u64 0, .int .u64 0, .int .u64 0, .int .u64 0] 154)).alloc (.cells #[.int .u64 0, .int .u64 0, .int .u64 0, .int .u64 0] 154)) w.heap.size 0 ∧ SB ((w.alloc (.cells #[.int .u64 0, .int .u64 0, .int .u64 0, .int .u64 0] 154)).alloc (.cells #[.int .u64 0, .int .u64 0, .int .u64 0, .int .u64 0] 154)) (w.heap.size + 1) 0 ∧ Below w.heap.size w ((w.alloc (.cells #[.int .u64 0, .int .u64 0, .int .u64 0, .int .u64 0] 154)).alloc (.cells #[.int .u64 0, .int .u64 0, .int .u64 0, .int .u64 0] 154))) :=
    Lib.hid ⟨(SB.zero w).alloc _, by have := SB.zero (w.alloc (.cells #[.int .u64 0, .int .u64 0, .int .u64 0, .int .u64 0] 154)); simpa using this, ((Below.refl _ _).alloc (Nat.le_refl _) _).alloc (by simp) _⟩
  go_enter Try.func105, Try.ntmps105
  go_upto_region 2 with fail
  revert hc
  generalize (w.alloc (.cells #[.int .u64 0, .int .u64 0, .int .u64 0, .int .u64 0] 154)).alloc (.cells #[.int .u64 0, .int .u64 0, .int .u64 0, .int .u64 0] 154) = W
  intro hc
  go_wp2
  go_loopw [4] (fun i wr => ∃ (a : Nat) (M : BitVec 256), i = .int .i64 a ∧ a ≤ 4 ∧ Hid (Cs.WS M a 0 F) ∧ Hid (SB wr w.heap.size 0 ∧ SB wr (w.heap.size + 1) M ∧ Below w.heap.size w wr)) (fun i _ => 4 - (intOf i).toNat)
  case atStart => exact ⟨0, 0, rfl, by omega, Lib.hid (Cs.WS.start F), hc⟩
  case round =>
    clear hc
    obtain ⟨a, M, rfl, ha, HM, HB⟩ := hrel
    have j0 : (0 : Int) ≤ (a : Int) := by omega
    by_cases hal : a < 4
    · go_wp2
      obtain ⟨N, hN⟩ : ∃ N, (Cs.wb F a).toNat = N := ⟨_, rfl⟩
      have HN : Hid ((Cs.wb F a).toNat = N ∧ N < 256 ^ 8) := Lib.hid ⟨hN, hN ▸ word.out a⟩
      clear hN
      go_loopw [5] (fun i wr => ∃ (j : Nat) (M : BitVec 256), i = .int .i64 ((j : Int) - 1) ∧ j ≤ 64 ∧ Hid (Cs.WS M a ((N / 2 ^ j : Nat) : Int) F) ∧ Hid (SB wr w.heap.size 0 ∧ SB wr (w.heap.size + 1) M ∧ Below w.heap.size w wr)) (fun i _ => ((intOf i) + 1).toNat)
      case atStart => exact ⟨64, M, by rfl, by omega, (by
        have : N / 2 ^ 64 = 0 := by
          have h := HN.out.2
          have e : 256 ^ 8 = 2 ^ 64 := by decide
          rw [e] at h
          exact Nat.div_eq_of_lt h
        rw [this]; exact HM), HB⟩
      case round =>
        clear HM HB
        obtain ⟨j, M, rfl, hj, HM, HB⟩ := hrel
        by_cases hjl : 0 < j
        · obtain ⟨k, rfl⟩ : ∃ k, j = k + 1 := ⟨j - 1, by omega⟩
          have e0 : (((k + 1 : Nat) : Int) - 1) = (k : Int) := by omega
          rw [e0]
          have k0 : (0 : Int) ≤ (k : Int) := by omega
          obtain ⟨x, hx⟩ : ∃ x, N / 2 ^ (k + 1) = x := ⟨_, rfl⟩
          obtain ⟨z, hz⟩ : ∃ z, N / 2 ^ k = z := ⟨_, rfl⟩
          obtain ⟨q, hq⟩ : ∃ q, 64 * a + k = q := ⟨_, rfl⟩
          obtain ⟨y, hy⟩ : ∃ y, 2 * x = y := ⟨_, rfl⟩
          have hzx : z = y + (if f q then 1 else 0) := by
            have := Cs.half f a k hal (by omega)
            rw [HF.out, HN.out.1, hx, hz, hq, hy] at this
            exact this
          have hzl : z < 18446744073709551616 := by
            have h := HN.out.2
            have e : 256 ^ 8 = 18446744073709551616 := by decide
            have := Nat.div_le_self N (2 ^ k)
            omega
          have hyz : y ≤ z := by omega
          have HM0 : Hid (Cs.WS M a (x : Int) F) := Lib.hid (by have := HM.out; rw [hx] at this; exact this)
          obtain ⟨M2, m1, m2⟩ := HM0.out.set hal (y : Int) (by omega) (by omega)
          obtain ⟨M3, m3, m4⟩ := m2.set hal (z : Int) (by omega) (by omega)
          have HB2 : Hid (SB (wr.setCell ⟨w.heap.size + 1, a, none⟩ (.int .u64 y)) w.heap.size 0 ∧ SB (wr.setCell ⟨w.heap.size + 1, a, none⟩ (.int .u64 y)) (w.heap.size + 1) M2 ∧ Below w.heap.size w (wr.setCell ⟨w.heap.size + 1, a, none⟩ (.int .u64 y))) := Lib.hid ⟨HB.out.1.other (by omega) _ _, HB.out.2.1.word m1, below_set HB.out.2.2 (by omega) _ _⟩
          have HZ : Hid (N / 2 ^ k = z) := Lib.hid hz
          have c1 := HB.out.2.1.at' hal (HM0.out.here hal)
          have f1 := HB.out.2.1.free a
          have s1 : IntKind.u64.wrap (2 * (x : Int)) = (y : Int) := by
            have := nat_u64 y (by have e : 256 ^ 8 = 18446744073709551616 := by decide
                                  omega)
            rw [← hy] at this ⊢; simpa using this
          have s2 : IntKind.i64.wrap (64 * (a : Int)) = 64 * (a : Int) := IntWalk.i64_in _ (by omega)
          have s3 : IntKind.i64.wrap (64 * (a : Int) + k) = (q : Int) := by rw [show 64 * (a : Int) + k = (q : Int) by omega]; exact IntWalk.i64_in _ (by omega)
          have s4 : IntKind.i64.wrap ((k : Int) - 1) = (k : Int) - 1 := IntWalk.i64_in _ (by omega)
          have qn : q < n := by omega
          have HR2 := Lib.hid ((HW.out.below HB2.out.2.2).cell (bl_at f (i := q) (by omega)))
          have HMM := Lib.hid (And.intro m2 (And.intro m3 m4))
          clear m1 m2 m3 m4 hx hz hq hy HM HM0
          go_upto_region 9 with fail
          clear c1 f1 HB
          revert HB2 HR2
          generalize wr.setCell ⟨w.heap.size + 1, a, none⟩ (.int .u64 y) = W2
          intro HB2 HR2
          have c2 := HR2.out
          cases hfq : f q
          · rw [hfq] at c2 hzx
            simp only [Bool.false_eq_true, if_false, Nat.add_zero] at hzx
            have HX : Hid (Cs.WS M2 a ((N / 2 ^ k : Nat) : Int) F) := Lib.hid (by rw [HZ.out, hzx]; exact HMM.out.1)
            clear hfq hzx
            go_wp2
            refine ⟨?_, ?measure⟩
            case measure => first | (simp [intOf]; done) | (simp [intOf]; omega)
            first
              | exact ⟨k, M2, rfl, by omega, HX, HB2⟩
              | ((repeat apply Exists.intro); exact ⟨⟨k, M2, rfl, by omega, HX, HB2⟩, rfl⟩)
          · rw [hfq] at c2 hzx
            simp only [if_true] at hzx
            have HX : Hid (Cs.WS M3 a ((N / 2 ^ k : Nat) : Int) F) := Lib.hid (by rw [HZ.out]; exact HMM.out.2.2)
            have HB3 : Hid (SB (W2.setCell ⟨w.heap.size + 1, a, none⟩ (.int .u64 z)) w.heap.size 0 ∧ SB (W2.setCell ⟨w.heap.size + 1, a, none⟩ (.int .u64 z)) (w.heap.size + 1) M3 ∧ Below w.heap.size w (W2.setCell ⟨w.heap.size + 1, a, none⟩ (.int .u64 z))) := Lib.hid ⟨HB2.out.1.other (by omega) _ _, HB2.out.2.1.word HMM.out.2.1, below_set HB2.out.2.2 (by omega) _ _⟩
            have c3 := HB2.out.2.1.at' hal (HMM.out.1.here hal)
            have f3 := HB2.out.2.1.free a
            have s5 : IntKind.u64.wrap ((y : Int) + 1) = (z : Int) := by
              have := nat_u64 z (by have e : 256 ^ 8 = 18446744073709551616 := by decide
                                    omega)
              rw [hzx] at this ⊢; simpa using this
            clear hfq hzx
            go_wp2
            refine ⟨?_, ?measure⟩
            case measure => first | (simp [intOf]; done) | (simp [intOf]; omega)
            first
              | exact ⟨k, M3, rfl, by omega, HX, HB3⟩
              | ((repeat apply Exists.intro); exact ⟨⟨k, M3, rfl, by omega, HX, HB3⟩, rfl⟩)
        · obtain rfl : j = 0 := by omega
          have HX : Hid (Cs.WS M (a + 1) 0 F) := Lib.hid (HM.out.next (by simp only [Nat.pow_zero, Nat.div_one]; rw [← HN.out.1]; rfl))
          go_wp2
          refine ⟨?_, ?measure⟩
          case measure => first | (simp [intOf]; done) | (simp [intOf]; omega)
          first
            | exact ⟨a + 1, M, by go_num, by omega, HX, HB⟩
            | ((repeat apply Exists.intro); exact ⟨⟨a + 1, M, by go_num, by omega, HX, HB⟩, rfl⟩)
    · obtain rfl : a = 4 := by omega
      obtain rfl := HM.out.stop
      have HC := HB
      have x0 := HC.out.2.1.at (i := 0) (by decide)
      have x1 := HC.out.2.1.at (i := 1) (by decide)
      have x2 := HC.out.2.1.at (i := 2) (by decide)
      have x3 := HC.out.2.1.at (i := 3) (by decide)
      have d0 := HC.out.1.at (i := 0) (by decide)
      have d1 := HC.out.1.at (i := 1) (by decide)
      have d2 := HC.out.1.at (i := 2) (by decide)
      have d3 := HC.out.1.at (i := 3) (by decide)
      have df0 := HC.out.1.free 0
      have df1 := HC.out.1.free 1
      have df2 := HC.out.1.free 2
      have df3 := HC.out.1.free 3
      go_wp2
      have hr := Lib.hid (HC.out.1.res HC.out.2.2 (Nat.le_refl _) M)
      clear x0 x1 x2 x3 d0 d1 d2 d3 df0 df1 df2 df3 HC HB
      revert hr
      generalize (((wr.setCell ⟨w.heap.size, 0, none⟩ (.int .u64 (Cs.wd M 0))).setCell ⟨w.heap.size, 1, none⟩ (.int .u64 (Cs.wd M 1))).setCell ⟨w.heap.size, 2, none⟩ (.int .u64 (Cs.wd M 2))).setCell ⟨w.heap.size, 3, none⟩ (.int .u64 (Cs.wd M 3)) = W2
      intro hr
      have c0 := hr.out.1.at (i := 0) (by decide)
      have c1 := hr.out.1.at (i := 1) (by decide)
      have c2 := hr.out.1.at (i := 2) (by decide)
      have c3 := hr.out.1.at (i := 3) (by decide)
      refine bodyPost_ret (v := .agg #[.int .u64 (Cs.wd M 0), .int .u64 (Cs.wd M 1), .int .u64 (Cs.wd M 2), .int .u64 (Cs.wd M 3)]) (by simp [results, Try.results105, go_sem, c0, c1, c2, c3]) rfl ?_
      exact ⟨rfl, hr.out.2⟩
end Go.Proofs.Ytbdjcppkfihonaa
/- The document's own answers on sets of bytes: of a text, of all from one to another. -/
namespace Go.Proofs.Ytbdjcppkfihonaa
open Go.ChangeShapes Go.WideShapes Go.ChangeAt Go.RowKit
set_option linter.unusedSimpArgs false
set_option linter.unusedVariables false

theorem Rw.put {w : World} {g cap : Nat} {L : List Value} {T : TypeId} (h : Rw w g cap L T) {i : Nat} (hi : i < L.length) (v : Value) : Rw (w.setCell ⟨g, i, none⟩ v) g cap (L.set i v) T := by
  obtain ⟨r, h1, h2, h3⟩ := h
  refine ⟨r, by simpa using h1, h2, ?_⟩
  have := h3.set i v
  rwa [List.set_append_left _ _ hi] at this
theorem Rw.free {w : World} {g cap : Nat} {L : List Value} {T : TypeId} (h : Rw w g cap L T) (i : Nat) : w.frozen? ⟨g, i, none⟩ = false := by
  obtain ⟨r, h1, h2, h3⟩ := h; exact h3.free i
theorem bl_set (f h : Nat → Bool) (i : Nat) (b : Bool) (hh : ∀ j, j < 256 → h j = if j = i then b else f j) : (bl f 256).set i (.bool b) = bl h 256 := by
  apply List.ext_getElem?
  intro j
  rw [List.getElem?_set]
  by_cases hj : j < 256
  · rw [bl_at h hj, bl_at f hj, hh j hj]
    by_cases e : i = j
    · subst e; simp [bl_length, hj]
    · rw [if_neg e, if_neg (fun k => e k.symm)]
  · have e1 : (bl h 256)[j]? = none := List.getElem?_eq_none (by rw [bl_length]; omega)
    have e2 : (bl f 256)[j]? = none := List.getElem?_eq_none (by rw [bl_length]; omega)
    rw [e1, e2]
    split
    · rw [if_neg (by rw [bl_length]; omega)]
    · rfl
theorem bl_congr {f h : Nat → Bool} (hh : ∀ j, j < 256 → f j = h j) : bl f 256 = bl h 256 := by
  unfold bl
  exact List.map_congr_left fun j hj => by rw [hh j (List.mem_range.1 hj)]
theorem Rw.flip {w : World} {g cap : Nat} {f h : Nat → Bool} (k : Rw w g cap (bl f 256) 4) {i : Nat} (hi : i < 256) {b : Bool} (hh : ∀ j, j < 256 → h j = if j = i then b else f j) : Rw (w.setCell ⟨g, i, none⟩ (.bool b)) g cap (bl h 256) 4 := by
  have := k.put (i := i) (by rw [bl_length]; exact hi) (.bool b)
  rwa [bl_set f h i b hh] at this
theorem Rw.other {w : World} {g cap : Nat} {L : List Value} {T : TypeId} (h : Rw w g cap L T) {c : Nat} (hne : g ≠ c) (i : Nat) (v : Value) : Rw (w.setCell ⟨c, i, none⟩ v) g cap L T := by
  obtain ⟨r, h1, h2, h3⟩ := h; exact ⟨r, h1, h2, h3.other hne i v⟩
/-- Which bytes came so far. -/
def came (s : ByteArray) (k : Nat) : Nat → Bool := fun j => (s.data.toList.take k).any fun b => b.toNat == j
theorem came_step (s : ByteArray) (k : Nat) (hk : k < s.size) (j : Nat) : came s (k + 1) j = if j = s[k].toNat then true else came s k j := by
  unfold came
  rw [List.take_succ_eq_append_getElem (by simpa using hk), List.any_append]
  have e : s.data.toList[k]'(by simpa using hk) = s[k] := rfl
  rw [e]
  by_cases h : j = s[k].toNat
  · subst h; simp
  · have : (s[k].toNat == j) = false := by rw [beq_eq_false_iff_ne]; exact fun e => h e.symm
    simp [this, h]
theorem came_all (s : ByteArray) : Cs.mkN (came s s.size) 256 = Cs.ofL s.data.toList := Cs.ext_get fun i hi => by
  rw [Cs.mkN_get _ _ _ hi, Cs.ofL_get _ _ hi]
  unfold came
  rw [List.take_of_length_le (by simp)]
  simp [hi]
set_option maxRecDepth 20000 in
set_option maxHeartbeats 1000000 in
theorem rf_span (a b : Nat) (ha : a < 256) (hb : b < 256) (w : World) :
    Calls Try.prog 95 #[.int .i64 a, .int .i64 b] w fun e w' => e = .returned (Cs.sv (Cs.span a b)) ∧ Below w.heap.size w w' := by
  obtain ⟨F, hF⟩ : ∃ F, Cs.span a b = F := ⟨_, rfl⟩
  have HFF : Hid (∀ k, b < k → Cs.mkN (fun j => decide (a ≤ j) && (decide (j < k) && decide (j ≤ b))) 256 = F) := Lib.hid (fun k hk => by
    rw [← hF]
    refine Cs.ext_get fun i hi => ?_
    rw [Cs.mkN_get _ _ _ hi, Cs.span_get _ _ _ hi]
    by_cases h : i ≤ b
    · have : i < k := by omega
      simp [hi, h, this]
    · simp [h])
  rw [hF]
  clear hF
  obtain ⟨R, hR⟩ : ∃ R, w.heap.size = R := ⟨_, rfl⟩
  have HR0 : Hid (w.heap.size = R) := Lib.hid hR
  have hc : Hid (SB (w.alloc (.cells #[.int .u64 0, .int .u64 0, .int .u64 0, .int .u64 0] 154)) R 0 ∧ Below w.heap.size w (w.alloc (.cells #[.int .u64 0, .int .u64 0, .int .u64 0, .int .u64 0] 154))) := Lib.hid ⟨by rw [← hR]; exact SB.zero w, (Below.refl _ _).alloc (Nat.le_refl _) _⟩
  go_enter Try.func95, Try.ntmps95
  go_upto_region 1 with fail
  revert hc
  generalize w.alloc (.cells #[.int .u64 0, .int .u64 0, .int .u64 0, .int .u64 0] 154) = W
  intro hc
  clear hR
  go_upto_region 2 with (go_at_call 102; refine (rf_none _).mono ?_; rintro e W1 ⟨g, cap, rfl, h1, h2, h3⟩; have HG : Hid (R < g) := Lib.hid (Nat.lt_of_lt_of_le hc.out.1.lt h1); have HB : Hid (SB W1 R 0 ∧ Rw W1 g cap (bl (fun _ => false) 256) 4 ∧ Below w.heap.size w W1) := Lib.hid ⟨hc.out.1.below h3, h2, hc.out.2.trans (h3.mono hc.out.2.size)⟩; clear h1 h2 h3 hc)
  go_wp2_with fail
  go_loopw [6] (fun i wr => ∃ k : Nat, i = .int .i64 k ∧ k ≤ 256 ∧ a ≤ k ∧ Hid (SB wr R 0 ∧ Rw wr g cap (bl (fun j => decide (a ≤ j) && (decide (j < k) && decide (j ≤ b))) 256) 4 ∧ Below w.heap.size w wr)) (fun i _ => 256 - (intOf i).toNat)
  case atStart => exact ⟨a, rfl, by omega, by omega, Lib.hid ⟨HB.out.1, by rw [bl_congr (h := fun _ => false) (fun j _ => by simp; omega)]; exact HB.out.2.1, HB.out.2.2⟩⟩
  case round =>
    clear HB
    obtain ⟨k, rfl, hk, hak, HB⟩ := hrel
    have j0 : (0 : Int) ≤ (k : Int) := by omega
    by_cases hkl : k ≤ b
    · have hk2 : k < 256 := by omega
      have HN : Hid (SB (wr.setCell ⟨g, k, none⟩ (.bool true)) R 0 ∧ Rw (wr.setCell ⟨g, k, none⟩ (.bool true)) g cap (bl (fun j => decide (a ≤ j) && (decide (j < k + 1) && decide (j ≤ b))) 256) 4 ∧ Below w.heap.size w (wr.setCell ⟨g, k, none⟩ (.bool true))) := Lib.hid ⟨HB.out.1.other (by have := HG.out; omega) _ _, HB.out.2.1.flip hk2 (fun j hj => by
        by_cases e : j = k
        · subst e; simp [hak, hkl]
        · have : decide (j < k + 1) = decide (j < k) := by congr 1; apply propext; omega
          simp only [this, if_neg e]), below_set HB.out.2.2 (by have := HG.out; have := HR0.out; omega) _ _⟩
      have c := HB.out.2.1.cell (bl_at (fun j => decide (a ≤ j) && (decide (j < k) && decide (j ≤ b))) (i := k) hk2)
      have fc := HB.out.2.1.free k
      have HN2 := Lib.hid HN
      go_wp2
      refine ⟨?_, ?measure⟩
      case measure => simp [intOf]; omega
      first
        | exact ⟨k + 1, by go_num, by omega, by omega, HN2.out⟩
        | ((repeat apply Exists.intro); exact ⟨⟨k + 1, by go_num, by omega, by omega, HN2.out⟩, rfl⟩)
    · have hbk : b < k := by omega
      go_wp2_with (go_at_call 105; refine (rf_make _ g cap 256 _ HB.out.2.1 (by omega)).mono ?_; rintro e w9 ⟨rfl, hb9⟩; rw [HFF.out k hbk]; unfold Cs.sv; have HM9 : Hid (SB w9 R 0 ∧ Below w.heap.size w w9) := Lib.hid ⟨HB.out.1.below hb9, HB.out.2.2.trans (hb9.mono HB.out.2.2.size)⟩; clear hb9; have d0 := HM9.out.1.at (i := 0) (by decide); have df0 := HM9.out.1.free 0; have d1 := HM9.out.1.at (i := 1) (by decide); have df1 := HM9.out.1.free 1; have d2 := HM9.out.1.at (i := 2) (by decide); have df2 := HM9.out.1.free 2; have d3 := HM9.out.1.at (i := 3) (by decide); have df3 := HM9.out.1.free 3)
      have hr := Lib.hid (HM9.out.1.res HM9.out.2 (by have := HR0.out; omega) F)
      clear d0 d1 d2 d3 df0 df1 df2 df3 HM9
      revert hr
      generalize (((w9.setCell ⟨R, 0, none⟩ (.int .u64 (Cs.wd F 0))).setCell ⟨R, 1, none⟩ (.int .u64 (Cs.wd F 1))).setCell ⟨R, 2, none⟩ (.int .u64 (Cs.wd F 2))).setCell ⟨R, 3, none⟩ (.int .u64 (Cs.wd F 3)) = W2
      intro hr
      have c0 := hr.out.1.at (i := 0) (by decide)
      have c1 := hr.out.1.at (i := 1) (by decide)
      have c2 := hr.out.1.at (i := 2) (by decide)
      have c3 := hr.out.1.at (i := 3) (by decide)
      refine bodyPost_ret (v := .agg #[.int .u64 (Cs.wd F 0), .int .u64 (Cs.wd F 1), .int .u64 (Cs.wd F 2), .int .u64 (Cs.wd F 3)]) (by simp [results, Try.results95, go_sem, c0, c1, c2, c3]) rfl ?_
      exact ⟨rfl, hr.out.2⟩
end Go.Proofs.Ytbdjcppkfihonaa
/- The document's own answers on sets of bytes: all other bytes, all bytes. -/
namespace Go.Proofs.Ytbdjcppkfihonaa
open Go.ChangeShapes Go.WideShapes Go.ChangeAt Go.RowKit
set_option linter.unusedSimpArgs false
set_option linter.unusedVariables false

set_option maxRecDepth 20000 in
set_option maxHeartbeats 1000000 in
theorem rf_not (X : BitVec 256) (w : World) :
    Calls Try.prog 106 #[Cs.sv X] w fun e w' => e = .returned (Cs.sv (~~~X)) ∧ Below w.heap.size w w' := by
  obtain ⟨F, hF⟩ : ∃ F, ~~~X = F := ⟨_, rfl⟩
  have HFF : Hid (Cs.mkN (fun j => if j < 256 then !X.getLsbD j else X.getLsbD j) 256 = F) := Lib.hid (by
    rw [← hF]
    refine Cs.ext_get fun i hi => ?_
    rw [Cs.mkN_get _ _ _ hi, BitVec.getLsbD_not]; simp [hi])
  rw [hF]
  clear hF
  obtain ⟨R, hR⟩ : ∃ R, w.heap.size + 1 = R := ⟨_, rfl⟩
  have HR0 : Hid (w.heap.size + 1 = R) := Lib.hid hR
  have hc : Hid (SB ((w.alloc (.cells #[.int .u64 (Cs.wd X 0), .int .u64 (Cs.wd X 1), .int .u64 (Cs.wd X 2), .int .u64 (Cs.wd X 3)] 154)).alloc (.cells #[.int .u64 0, .int .u64 0, .int .u64 0, .int .u64 0] 154)) w.heap.size X ∧ SB ((w.alloc (.cells #[.int .u64 (Cs.wd X 0), .int .u64 (Cs.wd X 1), .int .u64 (Cs.wd X 2), .int .u64 (Cs.wd X 3)] 154)).alloc (.cells #[.int .u64 0, .int .u64 0, .int .u64 0, .int .u64 0] 154)) R 0 ∧ Below w.heap.size w ((w.alloc (.cells #[.int .u64 (Cs.wd X 0), .int .u64 (Cs.wd X 1), .int .u64 (Cs.wd X 2), .int .u64 (Cs.wd X 3)] 154)).alloc (.cells #[.int .u64 0, .int .u64 0, .int .u64 0, .int .u64 0] 154))) := Lib.hid ⟨(SB.new w X).alloc _, by rw [← hR]; have := SB.zero (w.alloc (.cells #[.int .u64 (Cs.wd X 0), .int .u64 (Cs.wd X 1), .int .u64 (Cs.wd X 2), .int .u64 (Cs.wd X 3)] 154)); simpa using this, ((Below.refl _ _).alloc (Nat.le_refl _) _).alloc (by simp) _⟩
  unfold Cs.sv
  go_enter Try.func106, Try.ntmps106
  go_upto_region 1 with fail
  revert hc
  generalize (w.alloc (.cells #[.int .u64 (Cs.wd X 0), .int .u64 (Cs.wd X 1), .int .u64 (Cs.wd X 2), .int .u64 (Cs.wd X 3)] 154)).alloc (.cells #[.int .u64 0, .int .u64 0, .int .u64 0, .int .u64 0] 154) = W
  intro hc
  clear hR
  have x0 := hc.out.1.at (i := 0) (by decide)
  have x1 := hc.out.1.at (i := 1) (by decide)
  have x2 := hc.out.1.at (i := 2) (by decide)
  have x3 := hc.out.1.at (i := 3) (by decide)
  go_upto_region 2 with (go_at_call 112; rw [sv_def X]; refine (rf_flags X _).mono ?_; rintro e W1 ⟨g, cap, rfl, h1, h2, h3⟩; have HG : Hid (R < g) := Lib.hid (Nat.lt_of_lt_of_le hc.out.2.1.lt h1); have HB : Hid (SB W1 R 0 ∧ Rw W1 g cap (bl X.getLsbD 256) 4 ∧ Below w.heap.size w W1) := Lib.hid ⟨hc.out.2.1.below h3, h2, hc.out.2.2.trans (h3.mono hc.out.2.2.size)⟩; clear h1 h2 h3 hc x0 x1 x2 x3)
  go_wp2_with fail
  go_loopw [4] (fun i wr => ∃ k : Nat, i = .int .i64 k ∧ k ≤ 256 ∧ Hid (SB wr R 0 ∧ Rw wr g cap (bl (fun j => if j < k then !X.getLsbD j else X.getLsbD j) 256) 4 ∧ Below w.heap.size w wr)) (fun i _ => 256 - (intOf i).toNat)
  case atStart => exact ⟨0, rfl, by omega, Lib.hid ⟨HB.out.1, by rw [bl_congr (h := X.getLsbD) (fun j _ => by simp)]; exact HB.out.2.1, HB.out.2.2⟩⟩
  case round =>
    clear HB
    obtain ⟨k, rfl, hk, HB⟩ := hrel
    have j0 : (0 : Int) ≤ (k : Int) := by omega
    by_cases hkl : k < 256
    · obtain ⟨b, hb⟩ : ∃ b, X.getLsbD k = b := ⟨_, rfl⟩
      have HN : Hid (SB (wr.setCell ⟨g, k, none⟩ (.bool (!b))) R 0 ∧ Rw (wr.setCell ⟨g, k, none⟩ (.bool (!b))) g cap (bl (fun j => if j < k + 1 then !X.getLsbD j else X.getLsbD j) 256) 4 ∧ Below w.heap.size w (wr.setCell ⟨g, k, none⟩ (.bool (!b)))) := Lib.hid ⟨HB.out.1.other (by have := HG.out; omega) _ _, HB.out.2.1.flip hkl (fun j hj => by
        by_cases e : j = k
        · subst e; simp [hb]
        · have : (j < k + 1) = (j < k) := by apply propext; omega
          simp only [this, if_neg e]), below_set HB.out.2.2 (by have := HG.out; have := HR0.out; omega) _ _⟩
      have c := HB.out.2.1.cell (bl_at (fun j => if j < k then !X.getLsbD j else X.getLsbD j) (i := k) hkl)
      simp only [Nat.lt_irrefl, if_false, hb] at c
      have fc := HB.out.2.1.free k
      have HN2 := Lib.hid HN
      clear hb
      go_wp2
      refine ⟨?_, ?measure⟩
      case measure => simp [intOf]; omega
      first
        | exact ⟨k + 1, by go_num, by omega, HN2.out⟩
        | ((repeat apply Exists.intro); exact ⟨⟨k + 1, by go_num, by omega, HN2.out⟩, rfl⟩)
    · obtain rfl : k = 256 := by omega
      go_wp2_with (go_at_call 105; refine (rf_make _ g cap 256 _ HB.out.2.1 (by omega)).mono ?_; rintro e w9 ⟨rfl, hb9⟩; rw [HFF.out]; unfold Cs.sv; have HM9 : Hid (SB w9 R 0 ∧ Below w.heap.size w w9) := Lib.hid ⟨HB.out.1.below hb9, HB.out.2.2.trans (hb9.mono HB.out.2.2.size)⟩; clear hb9; have d0 := HM9.out.1.at (i := 0) (by decide); have df0 := HM9.out.1.free 0; have d1 := HM9.out.1.at (i := 1) (by decide); have df1 := HM9.out.1.free 1; have d2 := HM9.out.1.at (i := 2) (by decide); have df2 := HM9.out.1.free 2; have d3 := HM9.out.1.at (i := 3) (by decide); have df3 := HM9.out.1.free 3)
      have hr := Lib.hid (HM9.out.1.res HM9.out.2 (by have := HR0.out; omega) F)
      clear d0 d1 d2 d3 df0 df1 df2 df3 HM9
      revert hr
      generalize (((w9.setCell ⟨R, 0, none⟩ (.int .u64 (Cs.wd F 0))).setCell ⟨R, 1, none⟩ (.int .u64 (Cs.wd F 1))).setCell ⟨R, 2, none⟩ (.int .u64 (Cs.wd F 2))).setCell ⟨R, 3, none⟩ (.int .u64 (Cs.wd F 3)) = W2
      intro hr
      have c0 := hr.out.1.at (i := 0) (by decide)
      have c1 := hr.out.1.at (i := 1) (by decide)
      have c2 := hr.out.1.at (i := 2) (by decide)
      have c3 := hr.out.1.at (i := 3) (by decide)
      refine bodyPost_ret (v := .agg #[.int .u64 (Cs.wd F 0), .int .u64 (Cs.wd F 1), .int .u64 (Cs.wd F 2), .int .u64 (Cs.wd F 3)]) (by simp [results, Try.results106, go_sem, c0, c1, c2, c3]) rfl ?_
      exact ⟨rfl, hr.out.2⟩
end Go.Proofs.Ytbdjcppkfihonaa
/- The document's own answers on sets of bytes: what comes of two sets. -/
namespace Go.Proofs.Ytbdjcppkfihonaa
open Go.ChangeShapes Go.WideShapes Go.ChangeAt Go.RowKit
set_option linter.unusedSimpArgs false
set_option linter.unusedVariables false

end Go.Proofs.Ytbdjcppkfihonaa
/- The document's own answers on sets of bytes: a byte's sign. -/
namespace Go.Proofs.Ytbdjcppkfihonaa
open Go.ChangeShapes Go.WideShapes Go.ChangeAt Go.RowKit
set_option linter.unusedSimpArgs false
set_option linter.unusedVariables false

theorem one_list {u : ByteArray} {b : Nat} (hb : b < 256) (hu : u.data.toList = [UInt8.ofNat b]) (c : UInt8) : (u.toList == [c]) = decide (b = c.toNat) := by
  rw [Lib.toList_data, hu]
  by_cases h : b = c.toNat
  · have : UInt8.ofNat b = c := by rw [h]; simp
    simp [this, h]
  · have : UInt8.ofNat b ≠ c := fun e => h (by rw [← e, Cs.toNat_lt hb])
    simp [this, h]
end Go.Proofs.Ytbdjcppkfihonaa
/- The document's own answers on sets of bytes: a set's text. -/
namespace Go.Proofs.Ytbdjcppkfihonaa
open Go.ChangeShapes Go.WideShapes Go.ChangeAt Go.RowKit
set_option linter.unusedSimpArgs false
set_option linter.unusedVariables false

theorem runF_math (X : BitVec 256) : ∀ n b, b + n + 1 = 256 → (∀ j, j ≤ Cs.run1 (UInt8.ofNat b) (Cs.memF X (b + 1)) → b + j < 256 ∧ (j = 0 ∨ X.getLsbD (b + j) = true)) ∧ (b + Cs.run1 (UInt8.ofNat b) (Cs.memF X (b + 1)) + 1 < 256 → X.getLsbD (b + Cs.run1 (UInt8.ofNat b) (Cs.memF X (b + 1)) + 1) = false) ∧ (Cs.memF X (b + 1)).drop (Cs.run1 (UInt8.ofNat b) (Cs.memF X (b + 1))) = Cs.memF X (b + Cs.run1 (UInt8.ofNat b) (Cs.memF X (b + 1)) + 1)
  | 0, b, h => by
    obtain rfl : b = 255 := by omega
    refine ⟨fun j hj => ?_, fun h => absurd h (by omega), rfl⟩
    rw [show (255 : Nat) + 1 = 256 from rfl, Cs.memF_end] at hj
    have : j = 0 := by simpa [Cs.run1] using hj
    subst this; exact ⟨by omega, Or.inl rfl⟩
  | n + 1, b, h => by
    have hs := Cs.memF_step X (b + 1) (by omega)
    cases hz : X.getLsbD (b + 1) with
    | true =>
      rw [hz] at hs
      simp only [if_true] at hs
      have hr : Cs.run1 (UInt8.ofNat b) (Cs.memF X (b + 1)) = Cs.run1 (UInt8.ofNat (b + 1)) (Cs.memF X (b + 1 + 1)) + 1 := by
        rw [hs, Cs.run1, if_pos (by rw [Cs.toNat_lt (by omega), Cs.toNat_lt (by omega)])]
      obtain ⟨i1, i2, i3⟩ := runF_math X n (b + 1) (by omega)
      rw [hr]
      refine ⟨fun j hj => ?_, fun h => ?_, ?_⟩
      · cases j with
        | zero => exact ⟨by omega, Or.inl rfl⟩
        | succ j =>
          obtain ⟨k1, k2⟩ := i1 j (by omega)
          refine ⟨by omega, Or.inr ?_⟩
          rcases k2 with e | e
          · subst e; exact hz
          · rw [show b + (j + 1) = b + 1 + j by omega]; exact e
      · have := i2 (by omega)
        rw [← this]; congr 1; omega
      · rw [hs, List.drop_succ_cons, i3]; congr 1; omega
    | false =>
      rw [hz] at hs
      simp only [Bool.false_eq_true, if_false] at hs
      have hr : Cs.run1 (UInt8.ofNat b) (Cs.memF X (b + 1)) = 0 := by
        have hge := Cs.memF_ge X n (b + 1 + 1) (by omega)
        rw [hs]
        cases hm : Cs.memF X (b + 1 + 1) with
        | nil => rfl
        | cons d r =>
          have := hge d (by rw [hm]; simp)
          rw [Cs.run1, if_neg (by rw [Cs.toNat_lt (by omega)]; omega)]
      rw [hr]
      refine ⟨fun j hj => ⟨by omega, Or.inl (by omega)⟩, fun _ => hz, rfl⟩
end Go.Proofs.Ytbdjcppkfihonaa
