/- The document's own answers on sets of bytes: whether a byte is in one, and the row of all. -/
import Derived.Test.YtkihlnomchhiiaaCs11
namespace Go.Proofs.Ytkihlnomchhiiaa
open Go.ChangeShapes Go.WideShapes Go.ChangeAt Go.RowKit
set_option linter.unusedSimpArgs false
set_option linter.unusedVariables false

theorem has_nat (X : BitVec 256) (b : Nat) (hb : b < 256) : ((Cs.wb X (b / 64)).toNat / 2 ^ (b % 64)) % 2 = if X.getLsbD b then 1 else 0 := by
  have h := Cs.has_shift X b hb
  have e : ((Cs.wd X (b / 64) / 2 ^ (b % 64)) % 2 : Int) = (((Cs.wb X (b / 64)).toNat / 2 ^ (b % 64) % 2 : Nat) : Int) := by simp [Cs.wd]
  rw [e] at h
  generalize (Cs.wb X (b / 64)).toNat / 2 ^ (b % 64) % 2 = z at h ⊢
  cases hx : X.getLsbD b
  · rw [hx] at h; simp only [Bool.false_eq_true, if_false] at h ⊢; omega
  · rw [hx] at h; simp only [if_true] at h ⊢; omega
set_option maxRecDepth 20000 in
theorem rf_has (X : BitVec 256) (b : Nat) (hb : b < 256) (r : Bool) (hr : X.getLsbD b = r) (w : World) :
    Calls Try.prog 48 #[Cs.sv X, .int .i64 b] w fun e w' => e = .returned (.bool r) ∧ Below w.heap.size w w' := by
  obtain ⟨i, hi⟩ : ∃ i, b / 64 = i := ⟨_, rfl⟩
  obtain ⟨m, hm⟩ : ∃ m, b % 64 = m := ⟨_, rfl⟩
  have q1 : (b : Int).tdiv 64 = (i : Int) := by rw [← hi]; exact tdiv_nat b 64
  have q2 : (b : Int).tmod 64 = (m : Int) := by rw [← hm]; exact tmod_nat b 64
  have q3 : IntKind.i64.wrap (i : Int) = i := IntWalk.i64_in _ (by omega)
  have i4 : i < 4 := by omega
  have m64 : m < 64 := by omega
  obtain ⟨N, hN⟩ : ∃ N, (Cs.wb X i).toNat = N := ⟨_, rfl⟩
  have HH : Hid (N / 2 ^ m % 2 = if r then 1 else 0) := Lib.hid (by rw [← hr, ← has_nat X b hb, hi, hm, hN])
  have HN : Hid (N < 256 ^ 8) := Lib.hid (by
    have := (Cs.wb X i).isLt
    have e : 256 ^ 8 = 18446744073709551616 := by decide
    omega)
  have hx : Cs.wd X i = (N : Int) := by unfold Cs.wd; rw [hN]
  have hc : Hid (SB (w.alloc (.cells #[.int .u64 (Cs.wd X 0), .int .u64 (Cs.wd X 1), .int .u64 (Cs.wd X 2), .int .u64 (Cs.wd X 3)] 38)) w.heap.size X ∧ Below w.heap.size w (w.alloc (.cells #[.int .u64 (Cs.wd X 0), .int .u64 (Cs.wd X 1), .int .u64 (Cs.wd X 2), .int .u64 (Cs.wd X 3)] 38))) := Lib.hid ⟨SB.new w X, (Below.refl _ _).alloc (Nat.le_refl _) _⟩
  unfold Cs.sv
  clear hr hi hm hN
  go_enter Try.func48, Try.ntmps48
  go_upto_region 1 with fail
  revert hc
  generalize w.alloc (.cells #[.int .u64 (Cs.wd X 0), .int .u64 (Cs.wd X 1), .int .u64 (Cs.wd X 2), .int .u64 (Cs.wd X 3)] 38) = W
  intro hc
  have c := hc.out.1.at i4
  rw [hx] at c
  clear hx
  go_wp2
  clear q1 q2 q3 c
  go_loopw [5, 6] (fun n i wr => ∃ (k j : Nat), i = .int .i64 k ∧ n = .int .u64 (N / 2 ^ j : Nat) ∧ k + j = m ∧ wr = W) (fun _ i _ => (intOf i).toNat)
  case atStart => exact ⟨m, 0, rfl, by simp, by omega, rfl⟩
  case round =>
    obtain ⟨k, j, rfl, rfl, hkj, rfl⟩ := hrel
    obtain ⟨a, ha⟩ : ∃ a, N / 2 ^ j = a := ⟨_, rfl⟩
    have HA := Lib.hid ha
    have hal : Hid (a < 256 ^ 8) := Lib.hid (by rw [← ha]; exact Nat.lt_of_le_of_lt (Nat.div_le_self _ _) HN.out)
    rw [ha]
    clear ha
    by_cases hk : 0 < k
    · have hk0 : (0 : Int) < (k : Int) := by omega
      have t1 : (a : Int).tdiv 2 = ((a / 2 : Nat) : Int) := tdiv_nat a 2
      obtain ⟨a2, ha2⟩ : ∃ a2, a / 2 = a2 := ⟨_, rfl⟩
      rw [ha2] at t1
      have t2 : IntKind.u64.wrap (a2 : Int) = a2 := nat_u64 a2 (by have := hal.out; omega)
      have w1 : IntKind.i64.wrap ((k : Int) - 1) = (k : Int) - 1 := IntWalk.i64_in _ (by omega)
      have HA2 : Hid (N / 2 ^ (j + 1) = a2) := Lib.hid (by rw [Nat.pow_succ, ← Nat.div_div_eq_div_mul, HA.out, ha2])
      clear ha2
      go_wp2
      refine ⟨?_, ?measure⟩
      case measure => simp [intOf]; omega
      first
        | exact ⟨k - 1, j + 1, by congr 1; omega, by rw [HA2.out], by omega, trivial⟩
        | ((repeat apply Exists.intro); exact ⟨⟨k - 1, j + 1, by congr 1; omega, by rw [HA2.out], by omega, rfl⟩, rfl⟩)
    · obtain rfl : k = 0 := by omega
      have t1 : (a : Int).tmod 2 = ((a % 2 : Nat) : Int) := tmod_nat a 2
      have ht : a % 2 = if r then 1 else 0 := by rw [← HA.out, ← HH.out]; congr 3; omega
      rw [ht] at t1
      cases r
      all_goals
        simp only [Bool.false_eq_true, if_false, if_true] at t1
        go_wp2
        go_ret
        exact ⟨rfl, hc.out.2⟩
theorem infob : (Try.prog.info? 4).map (fun i => (i.zero, i.size, i.bytes)) = some (some (.bool false), 1, 1) := by kernel_rfl
def bl (f : Nat → Bool) (n : Nat) : List Value := (List.range n).map fun i => .bool (f i)
theorem bl_length (f : Nat → Bool) (n : Nat) : (bl f n).length = n := by simp [bl]
theorem bl_snoc (f : Nat → Bool) (n : Nat) : bl f (n + 1) = bl f n ++ [.bool (f n)] := by simp [bl, List.range_succ]
theorem bl_at (f : Nat → Bool) {n i : Nat} (h : i < n) : (bl f n)[i]? = some (.bool (f i)) := by simp [bl, h]
theorem one_b (b : Bool) : ∀ u ∈ [Value.bool b], u.oneCell' = true := by intro u hu; simp at hu; subst hu; rfl
set_option maxRecDepth 20000 in
theorem rf_flags (X : BitVec 256) (w : World) :
    Calls Try.prog 40 #[Cs.sv X] w fun e w' => ∃ g cap, e = .returned (.slice (some ⟨g, 0, none⟩) 256 cap) ∧ w.heap.size ≤ g ∧ Rw w' g cap (bl X.getLsbD 256) 4 ∧ Below w.heap.size w w' := by
  obtain ⟨i0, hi, hz0, hz1, hz2⟩ := info_parts infob
  have HI := Lib.hid hi
  have HI0 := Lib.hid hz0
  have HI1 := Lib.hid hz1
  have HI2 := Lib.hid hz2
  clear hi hz0 hz1 hz2
  have hc : Hid (SB (w.alloc (.cells #[.int .u64 (Cs.wd X 0), .int .u64 (Cs.wd X 1), .int .u64 (Cs.wd X 2), .int .u64 (Cs.wd X 3)] 38)) w.heap.size X ∧ Below w.heap.size w (w.alloc (.cells #[.int .u64 (Cs.wd X 0), .int .u64 (Cs.wd X 1), .int .u64 (Cs.wd X 2), .int .u64 (Cs.wd X 3)] 38))) := Lib.hid ⟨SB.new w X, (Below.refl _ _).alloc (Nat.le_refl _) _⟩
  unfold Cs.sv
  go_enter Try.func40, Try.ntmps40
  go_upto_region 1 with fail
  revert hc
  generalize w.alloc (.cells #[.int .u64 (Cs.wd X 0), .int .u64 (Cs.wd X 1), .int .u64 (Cs.wd X 2), .int .u64 (Cs.wd X 3)] 38) = W
  intro hc
  have HE : Hid (SB (W.alloc (.cells #[] 4)) w.heap.size X ∧ (W.alloc (.cells #[] 4)).ownsRow (w.heap.size + 1) 4 1 (.slice (some ⟨W.heap.size, 0, none⟩) 0 0) 0 (bl X.getLsbD 0) ∧ Below w.heap.size w (W.alloc (.cells #[] 4))) :=
    Lib.hid ⟨hc.out.1.alloc _, World.ownsRow_made W #[] 0 (by have := hc.out.1.lt; omega) (by decide) rfl, hc.out.2.alloc hc.out.2.size _⟩
  clear hc
  go_upto_region 2 with fail
  revert HE
  generalize W.alloc (.cells #[] 4) = W1
  generalize W.heap.size = d
  intro HE
  go_wp2_with fail
  go_loopw [3, 4] (fun v i wr => ∃ k : Nat, i = .int .i64 k ∧ k ≤ 256 ∧ Hid (SB wr w.heap.size X ∧ wr.ownsRow (w.heap.size + 1) 4 1 v k (bl X.getLsbD k) ∧ Below w.heap.size w wr)) (fun _ i _ => 256 - (intOf i).toNat)
  case atStart => exact ⟨0, rfl, by omega, HE⟩
  case round =>
    clear HE
    obtain ⟨k, rfl, hk, HB⟩ := hrel
    have j0 : (0 : Int) ≤ (k : Int) := by omega
    by_cases hkl : k < 256
    · obtain ⟨r, hr⟩ : ∃ r, X.getLsbD k = r := ⟨_, rfl⟩
      have HR := Lib.hid hr
      clear hr
      have x0 := HB.out.1.at (i := 0) (by decide)
      have x1 := HB.out.1.at (i := 1) (by decide)
      have x2 := HB.out.1.at (i := 2) (by decide)
      have x3 := HB.out.1.at (i := 3) (by decide)
      go_wp2_with (first
        | (go_at_call 48; rw [sv_def X]; refine (rf_has X k hkl r HR.out _).mono ?_; rintro e w2 ⟨rfl, hb2⟩; have HB1 : Hid (SB w2 w.heap.size X ∧ w2.ownsRow (w.heap.size + 1) 4 1 u3 k (bl X.getLsbD k) ∧ Below w.heap.size w w2) := Lib.hid ⟨HB.out.1.below hb2, own_below HB.out.2.1 hb2, HB.out.2.2.trans (hb2.mono HB.out.2.2.size)⟩; clear hb2)
        | (at_builtin; refine wpList_append_own _ rfl _ _ 51 rfl (w.heap.size + 1) 4 i0 (.bool false) 1 1 Try.underlying51 HI.out HI0.out HI1.out HI2.out rfl (by decide) _ _ _ rfl (HB1.out.2.1.alloc _) ⟨w2.heap.size, 0, none⟩ 1 1 [.bool r] rfl rfl (one_new _ _ _) (one_b _) (by unfold maxLen; omega) (by omega) (by have := HB1.out.1.lt; simp; omega) ?_))
      intro v' w3 hown hgrow _
      have HN : Hid (SB w3 w.heap.size X ∧ w3.ownsRow (w.heap.size + 1) 4 1 v' (k + 1) (bl X.getLsbD (k + 1)) ∧ Below w.heap.size w w3) := by
        have hlt := HB1.out.1.lt
        have hb1 : Below (w.heap.size + 1) w2 w3 := ((Below.refl _ _).alloc (by omega) _).grown hgrow (by simp; omega) (fun q hq => (HB1.out.2.1.lt q hq).1)
        refine Lib.hid ⟨Blk.below HB1.out.1 hb1 (by omega), ?_, HB1.out.2.2.trans (hb1.mono (by omega))⟩
        rw [bl_snoc, HR.out]; exact hown
      clear hown hgrow
      go_wp2
      refine ⟨?_, ?measure⟩
      case measure => simp [intOf]; omega
      first
        | exact ⟨k + 1, by go_num, by omega, HN⟩
        | ((repeat apply Exists.intro); exact ⟨⟨k + 1, by go_num, by omega, HN⟩, rfl⟩)
    · obtain rfl : k = 256 := by omega
      go_wp2
      go_ret
      have hv : u3 ≠ .slice none 0 0 := by
        rcases HB.out.2.1.2 with ⟨_, h⟩ | ⟨g, cap, cur, h, _⟩
        · omega
        · rw [h]; simp
      obtain ⟨g, cap, h1, h2, h3, _⟩ := Rw.of_own HB.out.2.1 hv
      exact ⟨g, cap, by rw [← h1]; rfl, by omega, h3, HB.out.2.2⟩
theorem rf_none (w : World) :
    Calls Try.prog 29 #[] w fun e w' => ∃ g cap, e = .returned (.slice (some ⟨g, 0, none⟩) 256 cap) ∧ w.heap.size ≤ g ∧ Rw w' g cap (bl (fun _ => false) 256) 4 ∧ Below w.heap.size w w' := by
  have hz : bl (0 : BitVec 256).getLsbD 256 = bl (fun _ => false) 256 := by simp [bl]
  go_enter Try.func29, Try.ntmps29
  go_wp2_with (go_at_call 40; rw [sv_zero]; refine (rf_flags 0 _).mono ?_; rintro e w2 ⟨g, cap, rfl, h1, h2, h3⟩; rw [hz] at h2)
  go_ret
  exact ⟨g, cap, rfl, h1, h2, h3⟩
end Go.Proofs.Ytkihlnomchhiiaa
