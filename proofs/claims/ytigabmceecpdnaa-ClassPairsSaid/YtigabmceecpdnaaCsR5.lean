/- The document's own answers on sets of bytes: what comes of two sets. -/
import Derived.Test.YtigabmceecpdnaaCsR4
namespace Go.Proofs.Ytigabmceecpdnaa
open Go.ChangeShapes Go.WideShapes Go.ChangeAt Go.RowKit
set_option linter.unusedSimpArgs false
set_option linter.unusedVariables false

set_option maxRecDepth 20000 in
set_option maxHeartbeats 1000000 in
theorem rf_both (X Y : BitVec 256) (o : Bool) (F : BitVec 256) (hF : (if o then X ||| Y else X &&& Y) = F) (w : World) :
    Calls Try.prog 15 #[Cs.sv X, Cs.sv Y, .bool o] w fun e w' => e = .returned (Cs.sv F) ∧ Below w.heap.size w w' := by
  have HFF : Hid (Cs.mkN (fun j => if j < 256 then (X.getLsbD j && Y.getLsbD j || o && (X.getLsbD j || Y.getLsbD j)) else X.getLsbD j) 256 = F) := Lib.hid (by
    rw [← hF]
    refine Cs.ext_get fun i hi => ?_
    rw [Cs.mkN_get _ _ _ hi]
    cases o
    · simp [hi]
    · simp [hi]; exact fun a _ => Or.inl a)
  clear hF
  obtain ⟨R, hR⟩ : ∃ R, w.heap.size + 1 + 1 = R := ⟨_, rfl⟩
  have HR0 : Hid (w.heap.size + 1 + 1 = R) := Lib.hid hR
  have hc : Hid (SB (((w.alloc (.cells #[.int .u64 (Cs.wd X 0), .int .u64 (Cs.wd X 1), .int .u64 (Cs.wd X 2), .int .u64 (Cs.wd X 3)] 25)).alloc (.cells #[.int .u64 (Cs.wd Y 0), .int .u64 (Cs.wd Y 1), .int .u64 (Cs.wd Y 2), .int .u64 (Cs.wd Y 3)] 25)).alloc (.cells #[.int .u64 0, .int .u64 0, .int .u64 0, .int .u64 0] 25)) w.heap.size X ∧ SB (((w.alloc (.cells #[.int .u64 (Cs.wd X 0), .int .u64 (Cs.wd X 1), .int .u64 (Cs.wd X 2), .int .u64 (Cs.wd X 3)] 25)).alloc (.cells #[.int .u64 (Cs.wd Y 0), .int .u64 (Cs.wd Y 1), .int .u64 (Cs.wd Y 2), .int .u64 (Cs.wd Y 3)] 25)).alloc (.cells #[.int .u64 0, .int .u64 0, .int .u64 0, .int .u64 0] 25)) (w.heap.size + 1) Y ∧ SB (((w.alloc (.cells #[.int .u64 (Cs.wd X 0), .int .u64 (Cs.wd X 1), .int .u64 (Cs.wd X 2), .int .u64 (Cs.wd X 3)] 25)).alloc (.cells #[.int .u64 (Cs.wd Y 0), .int .u64 (Cs.wd Y 1), .int .u64 (Cs.wd Y 2), .int .u64 (Cs.wd Y 3)] 25)).alloc (.cells #[.int .u64 0, .int .u64 0, .int .u64 0, .int .u64 0] 25)) R 0 ∧ Below w.heap.size w (((w.alloc (.cells #[.int .u64 (Cs.wd X 0), .int .u64 (Cs.wd X 1), .int .u64 (Cs.wd X 2), .int .u64 (Cs.wd X 3)] 25)).alloc (.cells #[.int .u64 (Cs.wd Y 0), .int .u64 (Cs.wd Y 1), .int .u64 (Cs.wd Y 2), .int .u64 (Cs.wd Y 3)] 25)).alloc (.cells #[.int .u64 0, .int .u64 0, .int .u64 0, .int .u64 0] 25))) := Lib.hid ⟨((SB.new w X).alloc _).alloc _, by have := (SB.new (w.alloc (.cells #[.int .u64 (Cs.wd X 0), .int .u64 (Cs.wd X 1), .int .u64 (Cs.wd X 2), .int .u64 (Cs.wd X 3)] 25)) Y).alloc (.cells #[.int .u64 0, .int .u64 0, .int .u64 0, .int .u64 0] 25); simpa using this, by rw [← hR]; have := SB.zero ((w.alloc (.cells #[.int .u64 (Cs.wd X 0), .int .u64 (Cs.wd X 1), .int .u64 (Cs.wd X 2), .int .u64 (Cs.wd X 3)] 25)).alloc (.cells #[.int .u64 (Cs.wd Y 0), .int .u64 (Cs.wd Y 1), .int .u64 (Cs.wd Y 2), .int .u64 (Cs.wd Y 3)] 25)); simpa using this, (((Below.refl _ _).alloc (Nat.le_refl _) _).alloc (by simp) _).alloc (by simp; omega) _⟩
  unfold Cs.sv
  go_enter Try.func15, Try.ntmps15
  go_upto_region 1 with fail
  revert hc
  generalize ((w.alloc (.cells #[.int .u64 (Cs.wd X 0), .int .u64 (Cs.wd X 1), .int .u64 (Cs.wd X 2), .int .u64 (Cs.wd X 3)] 25)).alloc (.cells #[.int .u64 (Cs.wd Y 0), .int .u64 (Cs.wd Y 1), .int .u64 (Cs.wd Y 2), .int .u64 (Cs.wd Y 3)] 25)).alloc (.cells #[.int .u64 0, .int .u64 0, .int .u64 0, .int .u64 0] 25) = W
  intro hc
  clear hR
  replace hc : Hid (SB W.drew w.heap.size X ∧ SB W.drew (w.heap.size + 1) Y ∧ SB W.drew R 0 ∧ Below w.heap.size w W.drew) := Lib.hid ⟨hc.out.1.drew, hc.out.2.1.drew, hc.out.2.2.1.drew, hc.out.2.2.2.drew⟩
  have x0 := hc.out.1.at (i := 0) (by decide)
  have x1 := hc.out.1.at (i := 1) (by decide)
  have x2 := hc.out.1.at (i := 2) (by decide)
  have x3 := hc.out.1.at (i := 3) (by decide)
  have y0 := hc.out.2.1.at (i := 0) (by decide)
  have y1 := hc.out.2.1.at (i := 1) (by decide)
  have y2 := hc.out.2.1.at (i := 2) (by decide)
  have y3 := hc.out.2.1.at (i := 3) (by decide)
  go_region_with (first
    | (go_at_call 28; rw [sv_def X]; refine (rf_flags X _).mono ?_; rintro e wz ⟨g, cap, rfl, h1, h2, h3⟩; first
      | (have HB : Hid (SB wz R 0 ∧ Rw wz g cap (bl X.getLsbD 256) 4 ∧ Below w.heap.size w wz ∧ Rw wz g2 cap2 (bl Y.getLsbD 256) 4 ∧ R < g ∧ g ≠ g2) := Lib.hid ⟨HC.out.2.2.1.below h3, h2, HC.out.2.2.2.1.trans (h3.mono HC.out.2.2.2.1.size), HC.out.2.2.2.2.1.below h3, Nat.lt_of_lt_of_le HC.out.2.2.1.lt h1, by have := HC.out.2.2.2.2.1.lt; omega⟩)
      | (have HA : Hid (SB wz w.heap.size X ∧ SB wz (w.heap.size + 1) Y ∧ SB wz R 0 ∧ Below w.heap.size w wz ∧ Rw wz g cap (bl X.getLsbD 256) 4 ∧ R < g) := Lib.hid ⟨hc.out.1.below h3, hc.out.2.1.below h3, hc.out.2.2.1.below h3, hc.out.2.2.2.trans (h3.mono hc.out.2.2.2.size), h2, Nat.lt_of_lt_of_le hc.out.2.2.1.lt h1⟩; clear x0 x1 x2 x3 y0 y1 y2 y3; have y0 := HA.out.2.1.at (i := 0) (by decide); have y1 := HA.out.2.1.at (i := 1) (by decide); have y2 := HA.out.2.1.at (i := 2) (by decide); have y3 := HA.out.2.1.at (i := 3) (by decide)); clear h1 h2 h3)
    | (go_at_call 28; rw [sv_def Y]; refine (rf_flags Y _).mono ?_; rintro e wz ⟨g2, cap2, rfl, h1, h2, h3⟩; first
      | (have HB : Hid (SB wz R 0 ∧ Rw wz g cap (bl X.getLsbD 256) 4 ∧ Below w.heap.size w wz ∧ Rw wz g2 cap2 (bl Y.getLsbD 256) 4 ∧ R < g ∧ g ≠ g2) := Lib.hid ⟨HA.out.2.2.1.below h3, HA.out.2.2.2.2.1.below h3, HA.out.2.2.2.1.trans (h3.mono HA.out.2.2.2.1.size), h2, HA.out.2.2.2.2.2, by have := HA.out.2.2.2.2.1.lt; omega⟩)
      | (have HC : Hid (SB wz w.heap.size X ∧ SB wz (w.heap.size + 1) Y ∧ SB wz R 0 ∧ Below w.heap.size w wz ∧ Rw wz g2 cap2 (bl Y.getLsbD 256) 4 ∧ R < g2) := Lib.hid ⟨hc.out.1.below h3, hc.out.2.1.below h3, hc.out.2.2.1.below h3, hc.out.2.2.2.trans (h3.mono hc.out.2.2.2.size), h2, Nat.lt_of_lt_of_le hc.out.2.2.1.lt h1⟩; clear x0 x1 x2 x3 y0 y1 y2 y3; have x0 := HC.out.1.at (i := 0) (by decide); have x1 := HC.out.1.at (i := 1) (by decide); have x2 := HC.out.1.at (i := 2) (by decide); have x3 := HC.out.1.at (i := 3) (by decide)); clear h1 h2 h3))
  all_goals
    try clear x0 x1 x2 x3
    try clear y0 y1 y2 y3
    go_wp2_with fail
    go_loopw [9] (fun i wr => ∃ k : Nat, i = .int .i64 k ∧ k ≤ 256 ∧ Hid (SB wr R 0 ∧ Rw wr g cap (bl (fun j => if j < k then (X.getLsbD j && Y.getLsbD j || o && (X.getLsbD j || Y.getLsbD j)) else X.getLsbD j) 256) 4 ∧ Below w.heap.size w wr ∧ Rw wr g2 cap2 (bl Y.getLsbD 256) 4 ∧ R < g ∧ g ≠ g2)) (fun i _ => 256 - (intOf i).toNat)
    case atStart => exact ⟨0, rfl, by omega, Lib.hid ⟨HB.out.1, by rw [bl_congr (h := X.getLsbD) (fun j _ => by simp)]; exact HB.out.2.1, HB.out.2.2⟩⟩
    case round =>
      clear HB
      obtain ⟨k, rfl, hk, HB⟩ := hrel
      have j0 : (0 : Int) ≤ (k : Int) := by omega
      by_cases hkl : k < 256
      · obtain ⟨b1, hb1⟩ : ∃ b, X.getLsbD k = b := ⟨_, rfl⟩
        obtain ⟨b2, hb2⟩ : ∃ b, Y.getLsbD k = b := ⟨_, rfl⟩
        obtain ⟨v, hv⟩ : ∃ v, (b1 && b2 || o && (b1 || b2)) = v := ⟨_, rfl⟩
        have HN : Hid (SB (wr.setCell ⟨g, k, none⟩ (.bool v)) R 0 ∧ Rw (wr.setCell ⟨g, k, none⟩ (.bool v)) g cap (bl (fun j => if j < k + 1 then (X.getLsbD j && Y.getLsbD j || o && (X.getLsbD j || Y.getLsbD j)) else X.getLsbD j) 256) 4 ∧ Below w.heap.size w (wr.setCell ⟨g, k, none⟩ (.bool v)) ∧ Rw (wr.setCell ⟨g, k, none⟩ (.bool v)) g2 cap2 (bl Y.getLsbD 256) 4 ∧ R < g ∧ g ≠ g2) := Lib.hid ⟨HB.out.1.other (by have := HB.out.2.2.2.2.1; omega) _ _, HB.out.2.1.flip hkl (fun j hj => by
          by_cases e : j = k
          · subst e; simp [hb1, hb2, ← hv]
          · have : (j < k + 1) = (j < k) := by apply propext; omega
            simp only [this, if_neg e]), below_set HB.out.2.2.1 (by have := HB.out.2.2.2.2.1; have := HR0.out; omega) _ _, HB.out.2.2.2.1.other (fun e => HB.out.2.2.2.2.2 e.symm) _ _, HB.out.2.2.2.2⟩
        have c := HB.out.2.1.cell (bl_at (fun j => if j < k then (X.getLsbD j && Y.getLsbD j || o && (X.getLsbD j || Y.getLsbD j)) else X.getLsbD j) (i := k) hkl)
        simp only [Nat.lt_irrefl, if_false, hb1] at c
        have d := HB.out.2.2.2.1.cell (bl_at Y.getLsbD (i := k) hkl)
        rw [hb2] at d
        have fc := HB.out.2.1.free k
        have HN2 := Lib.hid HN
        clear hb1 hb2
        cases b1 <;> cases b2 <;> cases o
        all_goals
          simp only [Bool.and_false, Bool.and_true, Bool.false_and, Bool.true_and, Bool.or_false, Bool.or_true, Bool.false_or, Bool.true_or] at hv
          subst hv
          go_wp2
          refine ⟨?_, ?measure⟩
          case measure => simp [intOf]; omega
          first
            | exact ⟨k + 1, by go_num, by omega, HN2.out⟩
            | ((repeat apply Exists.intro); exact ⟨⟨k + 1, by go_num, by omega, HN2.out⟩, rfl⟩)
      · obtain rfl : k = 256 := by omega
        go_wp2_with (go_at_call 27; refine (rf_make _ g cap 256 _ HB.out.2.1 (by omega)).mono ?_; rintro e w9 ⟨rfl, hb9⟩; rw [HFF.out]; unfold Cs.sv; have HM9 : Hid (SB w9 R 0 ∧ Below w.heap.size w w9) := Lib.hid ⟨HB.out.1.below hb9, HB.out.2.2.1.trans (hb9.mono HB.out.2.2.1.size)⟩; clear hb9; have d0 := HM9.out.1.at (i := 0) (by decide); have df0 := HM9.out.1.free 0; have d1 := HM9.out.1.at (i := 1) (by decide); have df1 := HM9.out.1.free 1; have d2 := HM9.out.1.at (i := 2) (by decide); have df2 := HM9.out.1.free 2; have d3 := HM9.out.1.at (i := 3) (by decide); have df3 := HM9.out.1.free 3)
        have hr := Lib.hid (HM9.out.1.res HM9.out.2 (by have := HR0.out; omega) F)
        clear d0 d1 d2 d3 df0 df1 df2 df3 HM9
        revert hr
        generalize (((w9.setCell ⟨R, 0, none⟩ (.int .u64 (Cs.wd F 0))).setCell ⟨R, 1, none⟩ (.int .u64 (Cs.wd F 1))).setCell ⟨R, 2, none⟩ (.int .u64 (Cs.wd F 2))).setCell ⟨R, 3, none⟩ (.int .u64 (Cs.wd F 3)) = W2
        intro hr
        have c0 := hr.out.1.at (i := 0) (by decide)
        have c1 := hr.out.1.at (i := 1) (by decide)
        have c2 := hr.out.1.at (i := 2) (by decide)
        have c3 := hr.out.1.at (i := 3) (by decide)
        refine bodyPost_ret (v := .agg #[.int .u64 (Cs.wd F 0), .int .u64 (Cs.wd F 1), .int .u64 (Cs.wd F 2), .int .u64 (Cs.wd F 3)]) (by simp [results, Try.results15, go_sem, c0, c1, c2, c3]) rfl ?_
        exact ⟨rfl, hr.out.2⟩
end Go.Proofs.Ytigabmceecpdnaa
