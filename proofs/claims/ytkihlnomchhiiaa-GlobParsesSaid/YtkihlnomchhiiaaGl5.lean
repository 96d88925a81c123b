/- Contracts of patterns as texts: an item's text. -/
import Derived.Test.YtkihlnomchhiiaaGl4
namespace Go.Proofs.Ytkihlnomchhiiaa
open Go.ChangeShapes Go.WideShapes Go.ChangeAt Go.RowKit
set_option linter.unusedSimpArgs false
set_option linter.unusedVariables false

theorem eqIn_gen (X Y : BitVec 256) (w : World) : (Op.equalIn 10000 38 (.agg #[.int .u64 (Cs.wd X 0), .int .u64 (Cs.wd X 1), .int .u64 (Cs.wd X 2), .int .u64 (Cs.wd X 3)]) (.agg #[.int .u64 (Cs.wd Y 0), .int .u64 (Cs.wd Y 1), .int .u64 (Cs.wd Y 2), .int .u64 (Cs.wd Y 3)])).run Try.prog w = .ok (decide (X = Y)) w := by
  have h : ∀ n m : Int, (Op.equalIn 9999 36 (.int .u64 n) (.int .u64 m)).run Try.prog w = .ok (n == m) w := fun n m => by
    rw [run_equalIn_int w 9998 36 .u64 .u64 n m Try.underlying36]
  have hd : decide (X = Y) = (Cs.wd X 0 == Cs.wd Y 0 && (Cs.wd X 1 == Cs.wd Y 1 && (Cs.wd X 2 == Cs.wd Y 2 && Cs.wd X 3 == Cs.wd Y 3))) := by
    rw [Bool.eq_iff_iff]
    simp only [decide_eq_true_eq, Bool.and_eq_true, beq_iff_eq]
    exact ⟨fun e => by subst e; exact ⟨rfl, rfl, rfl, rfl⟩, fun ⟨a, b, c, d⟩ => Cs.sv_eq a b c d⟩
  rw [hd]
  show (Op.equalIn (9999 + 1) _ _ _).run _ _ = _
  rw [Op.equalIn]
  generalize Cs.wd X 0 = a0, Cs.wd X 1 = a1, Cs.wd X 2 = a2, Cs.wd X 3 = a3, Cs.wd Y 0 = b0, Cs.wd Y 1 = b1, Cs.wd Y 2 = b2, Cs.wd Y 3 = b3
  by_cases h0 : a0 = b0
  · by_cases h1 : a1 = b1
    · by_cases h2 : a2 = b2
      · by_cases h3 : a3 = b3
        · simp [go_sem, run_underlying Try.underlying38, Std.Legacy.Range.forIn_eq_forIn_range', Std.Legacy.Range.size, List.range', part, h, h0, h1, h2, h3]
        · have e3 : (a3 == b3) = false := by simp [h3]
          simp [go_sem, run_underlying Try.underlying38, Std.Legacy.Range.forIn_eq_forIn_range', Std.Legacy.Range.size, List.range', part, h, h0, h1, h2, e3]
      · have e2 : (a2 == b2) = false := by simp [h2]
        simp [go_sem, run_underlying Try.underlying38, Std.Legacy.Range.forIn_eq_forIn_range', Std.Legacy.Range.size, List.range', part, h, h0, h1, e2]
    · have e1 : (a1 == b1) = false := by simp [h1]
      simp [go_sem, run_underlying Try.underlying38, Std.Legacy.Range.forIn_eq_forIn_range', Std.Legacy.Range.size, List.range', part, h, h0, e1]
  · have e0 : (a0 == b0) = false := by simp [h0]
    simp [go_sem, run_underlying Try.underlying38, Std.Legacy.Range.forIn_eq_forIn_range', Std.Legacy.Range.size, List.range', part, h, e0]
theorem itx_cases (X : BitVec 256) : (X = Cs.all ∧ Cs.itx false X = [63]) ∨ (X ≠ Cs.all ∧ ∃ c, Cs.memT X 256 = [c] ∧ Cs.itx false X = Cs.sg7 c) ∨ (X ≠ Cs.all ∧ (Cs.memT X 256).length ≠ 1 ∧ Cs.itx false X = Cs.prt X) := by
  by_cases ha : X = Cs.all
  · left; subst ha; exact ⟨rfl, by unfold Cs.itx; rw [if_neg (by simp), if_pos rfl]⟩
  · by_cases hm : ∃ c, Cs.memT X 256 = [c]
    · obtain ⟨c, hc⟩ := hm
      exact Or.inr (Or.inl ⟨ha, c, hc, by unfold Cs.itx; rw [if_neg (by simp), if_neg ha, hc]⟩)
    · refine Or.inr (Or.inr ⟨ha, fun h => hm ?_, ?_⟩)
      · cases hl : Cs.memT X 256 with
        | nil => rw [hl] at h; simp at h
        | cons c r =>
          rw [hl] at h; simp at h
          exact ⟨c, by rw [h]⟩
      · unfold Cs.itx
        rw [if_neg (by simp), if_neg ha]
        split
        · rename_i c hc; exact absurd ⟨c, hc⟩ hm
        · rfl
set_option maxRecDepth 20000 in
theorem gl_item_run (X : BitVec 256) (w : World) :
    Calls Try.prog 23 #[Cs.it true X] w fun e w' => e = .returned (.string { data := #[42] }) ∧ Below w.heap.size w w' := by
  have hc : Hid (IB (w.alloc (.cells #[.bool true, .int .u64 (Cs.wd X 0), .int .u64 (Cs.wd X 1), .int .u64 (Cs.wd X 2), .int .u64 (Cs.wd X 3)] 40)) w.heap.size true X ∧ Below w.heap.size w (w.alloc (.cells #[.bool true, .int .u64 (Cs.wd X 0), .int .u64 (Cs.wd X 1), .int .u64 (Cs.wd X 2), .int .u64 (Cs.wd X 3)] 40))) := Lib.hid ⟨IB.new w true X, (Below.refl _ _).alloc (Nat.le_refl _) _⟩
  unfold Cs.it
  go_enter Try.func23, Try.ntmps23
  go_upto_region 1 with fail
  revert hc
  generalize w.alloc (.cells #[.bool true, .int .u64 (Cs.wd X 0), .int .u64 (Cs.wd X 1), .int .u64 (Cs.wd X 2), .int .u64 (Cs.wd X 3)] 40) = W
  intro hc
  have xb := Blk.cell hc.out.1 (i := 0) rfl
  go_wp2
  go_ret
  exact ⟨rfl, hc.out.2⟩
set_option maxRecDepth 20000 in
theorem gl_item_set (X : BitVec 256) (t : ByteArray) (ht : t.data.toList = Cs.itx false X) (w : World) :
    Calls Try.prog 23 #[Cs.it false X] w fun e w' => e = .returned (.string t) ∧ Below w.heap.size w w' := by
  have HT := Lib.hid ht
  have HX := Lib.hid (itx_cases X)
  have eqa := eqIn_gen X Cs.all
  obtain ⟨q, hq⟩ : ∃ q, decide (X = Cs.all) = q := ⟨_, rfl⟩
  have HQ := Lib.hid hq
  rw [hq] at eqa
  have hc : Hid (IB (w.alloc (.cells #[.bool false, .int .u64 (Cs.wd X 0), .int .u64 (Cs.wd X 1), .int .u64 (Cs.wd X 2), .int .u64 (Cs.wd X 3)] 40)) w.heap.size false X ∧ Below w.heap.size w (w.alloc (.cells #[.bool false, .int .u64 (Cs.wd X 0), .int .u64 (Cs.wd X 1), .int .u64 (Cs.wd X 2), .int .u64 (Cs.wd X 3)] 40))) := Lib.hid ⟨IB.new w false X, (Below.refl _ _).alloc (Nat.le_refl _) _⟩
  unfold Cs.it
  clear ht hq
  go_enter Try.func23, Try.ntmps23
  go_upto_region 1 with fail
  revert hc
  generalize w.alloc (.cells #[.bool false, .int .u64 (Cs.wd X 0), .int .u64 (Cs.wd X 1), .int .u64 (Cs.wd X 2), .int .u64 (Cs.wd X 3)] 40) = W
  intro hc
  have xb := Blk.cell hc.out.1 (i := 0) rfl
  go_upto_region 3 with fail
  refine wp_region_class (fun w' => IB w' w.heap.size false X ∧ Below w.heap.size w w') (by kernel_rfl) (by kernel_rfl) ⟨hc.out.1, hc.out.2.drew⟩ ?_
  repeat (first
      | go_big_quiet_skip
      | (go_big_quiet_want
         unfold Oper.quiet
         apply Exists.intro
         refine ⟨fun wq hwq => ?_, ?_⟩
         · (obtain ⟨hq1, hq2⟩ := hwq
            have x0 := Blk.cell hq1 (i := 1) rfl
            have x1 := Blk.cell hq1 (i := 2) rfl
            have x2 := Blk.cell hq1 (i := 3) rfl
            have x3 := Blk.cell hq1 (i := 4) rfl
            unfold Oper.quietAt
            go_simp
            first
              | exact ⟨rfl, hq1, hq2⟩
              | exact rfl
              | (go_at_call 31; refine (gl_every _).mono ?_; rintro e w3 ⟨he, hb⟩; unfold Cs.sv at he; exact ⟨he, Blk.below hq1 hb (Blk.lt hq1), hq2.trans (hb.mono hq2.size)⟩))
         simp only [Act.put, List.setIfInBounds_toArray, List.set_cons_zero, List.set_cons_succ]
         go_big_quiet_on))
  refine wpQuiet_nil ?_
  intro w4 hw4
  have HB4 := Lib.hid hw4
  clear hw4
  clear xb
  have x0 := Blk.cell HB4.out.1 (i := 1) rfl
  have x1 := Blk.cell HB4.out.1 (i := 2) rfl
  have x2 := Blk.cell HB4.out.1 (i := 3) rfl
  have x3 := Blk.cell HB4.out.1 (i := 4) rfl
  rcases HX.out with ⟨h1, h2⟩ | ⟨h1, c, h2, h3⟩ | ⟨h1, h2, h3⟩
  · obtain rfl : q = true := by rw [← HQ.out]; simp [h1]
    have HE : Hid (({ data := #[63] } : ByteArray) = t) := Lib.hid (text_ext (by rw [HT.out, h2]))
    clear h1 h2
    go_wp2
    go_ret
    exact ⟨by rw [HE.out]; rfl, HB4.out.2⟩
  · obtain rfl : q = false := by rw [← HQ.out]; simp [h1]
    obtain ⟨u, hu⟩ := text_mk (Cs.memT X 256)
    have hu2 := hu
    rw [h2] at hu2
    obtain ⟨l0, e0⟩ := at_of (i := 0) hu2 rfl
    have HU : Hid (u.data.toList = Cs.memT X 256 ∧ t.data.toList = Cs.sg7 c ∧ Cs.cnt X.getLsbD 256 = 1) := Lib.hid ⟨hu, by rw [HT.out, h3], by rw [← Cs.memT_len, h2]; rfl⟩
    have c1 : (u[0].toNat : Int) = c.toNat := by rw [e0]
    clear e0 hu hu2 h1 h2 h3
    go_wp2_with (first
      | (go_at_call 37; rw [sv_def X]; refine (cs_len X _).mono ?_; rintro e W1 ⟨rfl, hb1⟩; rw [HU.out.2.2]; have HB5 : Hid (IB W1 w.heap.size false X ∧ Below w.heap.size w W1) := Lib.hid ⟨Blk.below HB4.out.1 hb1 (Blk.lt HB4.out.1), HB4.out.2.trans (hb1.mono HB4.out.2.size)⟩; clear hb1 x0 x1 x2 x3; have x0 := Blk.cell HB5.out.1 (i := 1) rfl; have x1 := Blk.cell HB5.out.1 (i := 2) rfl; have x2 := Blk.cell HB5.out.1 (i := 3) rfl; have x3 := Blk.cell HB5.out.1 (i := 4) rfl)
      | (go_at_call 38; rw [sv_def X]; refine (cs_bytes X u HU.out.1 _).mono ?_; rintro e W2 ⟨rfl, hb2⟩; have HB6 : Hid (Below w.heap.size w W2) := Lib.hid (HB5.out.2.trans (hb2.mono HB5.out.2.size)); clear hb2)
      | (go_at_call 28; refine (gl_one c t HU.out.2.1 _).mono ?_; rintro e W3 ⟨rfl, hb3⟩; have HB7 : Hid (Below w.heap.size w W3) := Lib.hid (HB6.out.trans (hb3.mono HB6.out.size)); clear hb3))
    go_ret
    exact ⟨rfl, HB7.out⟩
  · obtain rfl : q = false := by rw [← HQ.out]; simp [h1]
    obtain ⟨n, hn⟩ : ∃ n, Cs.cnt X.getLsbD 256 = n := ⟨_, rfl⟩
    have hn1 : ((n : Int) == 1) = false := by rw [beq_eq_false_iff_ne]; rw [Cs.memT_len, hn] at h2; omega
    have HU : Hid (Cs.cnt X.getLsbD 256 = n ∧ t.data.toList = Cs.prt X) := Lib.hid ⟨hn, by rw [HT.out, h3]⟩
    clear hn h1 h2 h3
    go_wp2_with (first
      | (go_at_call 37; rw [sv_def X]; refine (cs_len X _).mono ?_; rintro e W1 ⟨rfl, hb1⟩; rw [HU.out.1]; have HB5 : Hid (IB W1 w.heap.size false X ∧ Below w.heap.size w W1) := Lib.hid ⟨Blk.below HB4.out.1 hb1 (Blk.lt HB4.out.1), HB4.out.2.trans (hb1.mono HB4.out.2.size)⟩; clear hb1 x0 x1 x2 x3; have x0 := Blk.cell HB5.out.1 (i := 1) rfl; have x1 := Blk.cell HB5.out.1 (i := 2) rfl; have x2 := Blk.cell HB5.out.1 (i := 3) rfl; have x3 := Blk.cell HB5.out.1 (i := 4) rfl)
      | (go_at_call 39; rw [sv_def X]; refine (cs_print X t HU.out.2 _).mono ?_; rintro e W2 ⟨rfl, hb2⟩; have HB6 : Hid (Below w.heap.size w W2) := Lib.hid (HB5.out.2.trans (hb2.mono HB5.out.2.size)); clear hb2))
    go_ret
    exact ⟨rfl, HB6.out⟩
theorem gl_item (r : Bool) (X : BitVec 256) (t : ByteArray) (ht : t.data.toList = Cs.itx r X) (w : World) :
    Calls Try.prog 23 #[Cs.it r X] w fun e w' => e = .returned (.string t) ∧ Below w.heap.size w w' := by
  cases r with
  | true =>
    have e : t = { data := #[42] } := text_ext (by rw [ht]; rfl)
    rw [e]; exact gl_item_run X w
  | false => exact gl_item_set X t ht w
end Go.Proofs.Ytkihlnomchhiiaa
