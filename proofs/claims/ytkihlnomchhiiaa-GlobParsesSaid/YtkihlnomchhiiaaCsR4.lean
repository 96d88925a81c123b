/- The document's own answers on sets of bytes: all other bytes, all bytes. -/
import Derived.Test.YtkihlnomchhiiaaCsR3
namespace Go.Proofs.Ytkihlnomchhiiaa
open Go.ChangeShapes Go.WideShapes Go.ChangeAt Go.RowKit
set_option linter.unusedSimpArgs false
set_option linter.unusedVariables false

set_option maxRecDepth 20000 in
set_option maxHeartbeats 1000000 in
theorem rf_not (X : BitVec 256) (w : World) :
    Calls Try.prog 36 #[Cs.sv X] w fun e w' => e = .returned (Cs.sv (~~~X)) ∧ Below w.heap.size w w' := by
  obtain ⟨F, hF⟩ : ∃ F, ~~~X = F := ⟨_, rfl⟩
  have HFF : Hid (Cs.mkN (fun j => if j < 256 then !X.getLsbD j else X.getLsbD j) 256 = F) := Lib.hid (by
    rw [← hF]
    refine Cs.ext_get fun i hi => ?_
    rw [Cs.mkN_get _ _ _ hi, BitVec.getLsbD_not]; simp [hi])
  rw [hF]
  clear hF
  obtain ⟨R, hR⟩ : ∃ R, w.heap.size + 1 = R := ⟨_, rfl⟩
  have HR0 : Hid (w.heap.size + 1 = R) := Lib.hid hR
  have hc : Hid (SB ((w.alloc (.cells #[.int .u64 (Cs.wd X 0), .int .u64 (Cs.wd X 1), .int .u64 (Cs.wd X 2), .int .u64 (Cs.wd X 3)] 38)).alloc (.cells #[.int .u64 0, .int .u64 0, .int .u64 0, .int .u64 0] 38)) w.heap.size X ∧ SB ((w.alloc (.cells #[.int .u64 (Cs.wd X 0), .int .u64 (Cs.wd X 1), .int .u64 (Cs.wd X 2), .int .u64 (Cs.wd X 3)] 38)).alloc (.cells #[.int .u64 0, .int .u64 0, .int .u64 0, .int .u64 0] 38)) R 0 ∧ Below w.heap.size w ((w.alloc (.cells #[.int .u64 (Cs.wd X 0), .int .u64 (Cs.wd X 1), .int .u64 (Cs.wd X 2), .int .u64 (Cs.wd X 3)] 38)).alloc (.cells #[.int .u64 0, .int .u64 0, .int .u64 0, .int .u64 0] 38))) := Lib.hid ⟨(SB.new w X).alloc _, by rw [← hR]; have := SB.zero (w.alloc (.cells #[.int .u64 (Cs.wd X 0), .int .u64 (Cs.wd X 1), .int .u64 (Cs.wd X 2), .int .u64 (Cs.wd X 3)] 38)); simpa using this, ((Below.refl _ _).alloc (Nat.le_refl _) _).alloc (by simp) _⟩
  unfold Cs.sv
  go_enter Try.func36, Try.ntmps36
  go_upto_region 1 with fail
  revert hc
  generalize (w.alloc (.cells #[.int .u64 (Cs.wd X 0), .int .u64 (Cs.wd X 1), .int .u64 (Cs.wd X 2), .int .u64 (Cs.wd X 3)] 38)).alloc (.cells #[.int .u64 0, .int .u64 0, .int .u64 0, .int .u64 0] 38) = W
  intro hc
  clear hR
  have x0 := hc.out.1.at (i := 0) (by decide)
  have x1 := hc.out.1.at (i := 1) (by decide)
  have x2 := hc.out.1.at (i := 2) (by decide)
  have x3 := hc.out.1.at (i := 3) (by decide)
  go_upto_region 2 with (go_at_call 40; rw [sv_def X]; refine (rf_flags X _).mono ?_; rintro e W1 ⟨g, cap, rfl, h1, h2, h3⟩; have HG : Hid (R < g) := Lib.hid (Nat.lt_of_lt_of_le hc.out.2.1.lt h1); have HB : Hid (SB W1 R 0 ∧ Rw W1 g cap (bl X.getLsbD 256) 4 ∧ Below w.heap.size w W1) := Lib.hid ⟨hc.out.2.1.below h3, h2, hc.out.2.2.trans (h3.mono hc.out.2.2.size)⟩; clear h1 h2 h3 hc x0 x1 x2 x3)
  go_wp2_with fail
  go_loopw [4] (fun i wr => ∃ k : Nat, i = .int .i64 k ∧ k ≤ 256 ∧ Hid (SB wr R 0 ∧ Rw wr g cap (bl (fun j => if j < k then !X.getLsbD j else X.getLsbD j) 256) 4 ∧ Below w.heap.size w wr)) (fun i _ => 256 - (intOf i).toNat)
  case atStart => exact ⟨0, rfl, by omega, Lib.hid ⟨HB.out.1, by rw [bl_congr (h := X.getLsbD) (fun j _ => by simp)]; exact HB.out.2.1, HB.out.2.2⟩⟩
  case round =>
    clear HB
    obtain ⟨k, rfl, hk, HB⟩ := hrel
    have j0 : (0 : Int) ≤ (k : Int) := by omega
    by_cases hkl : k < 256
    · obtain ⟨b, hb⟩ : ∃ b, X.getLsbD k = b := ⟨_, rfl⟩
      have HN : Hid (SB (wr.setCell ⟨g, k, none⟩ (.bool (!b))) R 0 ∧ Rw (wr.setCell ⟨g, k, none⟩ (.bool (!b))) g cap (bl (fun j => if j < k + 1 then !X.getLsbD j else X.getLsbD j) 256) 4 ∧ Below w.heap.size w (wr.setCell ⟨g, k, none⟩ (.bool (!b)))) := Lib.hid ⟨HB.out.1.other (by have := HG.out; omega) _ _, HB.out.2.1.flip hkl (fun j hj => by
        by_cases e : j = k
        · subst e; simp [hb]
        · have : (j < k + 1) = (j < k) := by apply propext; omega
          simp only [this, if_neg e]), below_set HB.out.2.2 (by have := HG.out; have := HR0.out; omega) _ _⟩
      have c := HB.out.2.1.cell (bl_at (fun j => if j < k then !X.getLsbD j else X.getLsbD j) (i := k) hkl)
      simp only [Nat.lt_irrefl, if_false, hb] at c
      have fc := HB.out.2.1.free k
      have HN2 := Lib.hid HN
      clear hb
      go_wp2
      refine ⟨?_, ?measure⟩
      case measure => simp [intOf]; omega
      first
        | exact ⟨k + 1, by go_num, by omega, HN2.out⟩
        | ((repeat apply Exists.intro); exact ⟨⟨k + 1, by go_num, by omega, HN2.out⟩, rfl⟩)
    · obtain rfl : k = 256 := by omega
      go_wp2_with (go_at_call 30; refine (rf_make _ g cap 256 _ HB.out.2.1 (by omega)).mono ?_; rintro e w9 ⟨rfl, hb9⟩; rw [HFF.out]; unfold Cs.sv; have HM9 : Hid (SB w9 R 0 ∧ Below w.heap.size w w9) := Lib.hid ⟨HB.out.1.below hb9, HB.out.2.2.trans (hb9.mono HB.out.2.2.size)⟩; clear hb9; have d0 := HM9.out.1.at (i := 0) (by decide); have df0 := HM9.out.1.free 0; have d1 := HM9.out.1.at (i := 1) (by decide); have df1 := HM9.out.1.free 1; have d2 := HM9.out.1.at (i := 2) (by decide); have df2 := HM9.out.1.free 2; have d3 := HM9.out.1.at (i := 3) (by decide); have df3 := HM9.out.1.free 3)
      have hr := Lib.hid (HM9.out.1.res HM9.out.2 (by have := HR0.out; omega) F)
      clear d0 d1 d2 d3 df0 df1 df2 df3 HM9
      revert hr
      generalize (((w9.setCell ⟨R, 0, none⟩ (.int .u64 (Cs.wd F 0))).setCell ⟨R, 1, none⟩ (.int .u64 (Cs.wd F 1))).setCell ⟨R, 2, none⟩ (.int .u64 (Cs.wd F 2))).setCell ⟨R, 3, none⟩ (.int .u64 (Cs.wd F 3)) = W2
      intro hr
      have c0 := hr.out.1.at (i := 0) (by decide)
      have c1 := hr.out.1.at (i := 1) (by decide)
      have c2 := hr.out.1.at (i := 2) (by decide)
      have c3 := hr.out.1.at (i := 3) (by decide)
      refine bodyPost_ret (v := .agg #[.int .u64 (Cs.wd F 0), .int .u64 (Cs.wd F 1), .int .u64 (Cs.wd F 2), .int .u64 (Cs.wd F 3)]) (by simp [results, Try.results36, go_sem, c0, c1, c2, c3]) rfl ?_
      exact ⟨rfl, hr.out.2⟩
set_option maxRecDepth 20000 in
set_option maxHeartbeats 1000000 in
theorem rf_bytes (X : BitVec 256) (t : ByteArray) (ht : t.data.toList = Cs.memT X 256) (w : World) :
    Calls Try.prog 25 #[Cs.sv X] w fun e w' => e = .returned (.string t) ∧ Below w.heap.size w w' := by
  have HT := Lib.hid ht
  clear ht
  obtain ⟨i0, hi, hz0, hz1, hz2⟩ := info_parts info5
  have HI := Lib.hid hi
  have HI0 := Lib.hid hz0
  have HI1 := Lib.hid hz1
  have HI2 := Lib.hid hz2
  clear hi hz0 hz1 hz2
  have hc : Hid (SB (w.alloc (.cells #[.int .u64 (Cs.wd X 0), .int .u64 (Cs.wd X 1), .int .u64 (Cs.wd X 2), .int .u64 (Cs.wd X 3)] 38)) w.heap.size X ∧ Below w.heap.size w (w.alloc (.cells #[.int .u64 (Cs.wd X 0), .int .u64 (Cs.wd X 1), .int .u64 (Cs.wd X 2), .int .u64 (Cs.wd X 3)] 38))) := Lib.hid ⟨SB.new w X, (Below.refl _ _).alloc (Nat.le_refl _) _⟩
  unfold Cs.sv
  go_enter Try.func25, Try.ntmps25
  go_upto_region 1 with fail
  revert hc
  generalize w.alloc (.cells #[.int .u64 (Cs.wd X 0), .int .u64 (Cs.wd X 1), .int .u64 (Cs.wd X 2), .int .u64 (Cs.wd X 3)] 38) = W
  intro hc
  have HE : Hid (SB (W.alloc (.cells #[] 5)) w.heap.size X ∧ Rw (W.alloc (.cells #[] 5)) W.heap.size 0 (cu (Cs.memT X 0)) 5 ∧ Below w.heap.size w (W.alloc (.cells #[] 5)) ∧ w.heap.size ≤ W.heap.size) :=
    Lib.hid ⟨hc.out.1.alloc _, Rw.empty W 5, hc.out.2.alloc hc.out.2.size _, hc.out.2.size⟩
  have y0 := HE.out.1.at (i := 0) (by decide)
  have y1 := HE.out.1.at (i := 1) (by decide)
  have y2 := HE.out.1.at (i := 2) (by decide)
  have y3 := HE.out.1.at (i := 3) (by decide)
  have x0 := hc.out.1.at (i := 0) (by decide)
  have x1 := hc.out.1.at (i := 1) (by decide)
  have x2 := hc.out.1.at (i := 2) (by decide)
  have x3 := hc.out.1.at (i := 3) (by decide)
  clear hc
  go_upto_region 2 with (go_at_call 40; rw [sv_def X]; refine (rf_flags X _).mono ?_; rintro e W1 ⟨g, cap, rfl, h1, h2, h3⟩; have HG : Hid (Rw W1 g cap (bl X.getLsbD 256) 4 ∧ Rw W1 W.heap.size 0 (cu (Cs.memT X 0)) 5 ∧ Below w.heap.size w W1 ∧ w.heap.size ≤ W.heap.size ∧ W.heap.size < g) := Lib.hid ⟨h2, HE.out.2.1.below h3, HE.out.2.2.1.trans (h3.mono HE.out.2.2.1.size), HE.out.2.2.2, Nat.lt_of_lt_of_le HE.out.2.1.lt h1⟩; clear h1 h2 h3 x0 x1 x2 x3 y0 y1 y2 y3)
  clear HE
  revert HG
  generalize W.heap.size = d
  intro HG
  go_wp2_with fail
  go_loopw [3, 5] (fun v i wr => ∃ (k m e c2 : Nat), i = .int .i64 k ∧ v = .slice (some ⟨e, 0, none⟩) m c2 ∧ k ≤ 256 ∧ m ≤ k ∧ Hid (Rw wr g cap (bl X.getLsbD 256) 4 ∧ Rw wr e c2 (cu (Cs.memT X k)) 5 ∧ Below w.heap.size w wr ∧ w.heap.size ≤ e ∧ e ≠ g ∧ (Cs.memT X k).length = m)) (fun _ i _ => 256 - (intOf i).toNat)
  case atStart => exact ⟨0, 0, d, 0, rfl, rfl, by omega, by omega, Lib.hid ⟨HG.out.1, HG.out.2.1, HG.out.2.2.1, HG.out.2.2.2.1, by have := HG.out.2.2.2.2; omega, rfl⟩⟩
  case round =>
    clear HG
    obtain ⟨k, m, d, c2, rfl, rfl, hk, hm, HB⟩ := hrel
    have j0 : (0 : Int) ≤ (k : Int) := by omega
    by_cases hkl : k < 256
    · have cw : IntKind.u8.wrap (k : Int) = k := by simp [IntKind.wrap, IntKind.signed, IntKind.bits]; omega
      have c := HB.out.1.cell (bl_at X.getLsbD (i := k) hkl)
      cases hr : X.getLsbD k with
      | false =>
        rw [hr] at c
        have HM : Hid (Rw wr g cap (bl X.getLsbD 256) 4 ∧ Rw wr d c2 (cu (Cs.memT X (k + 1))) 5 ∧ Below w.heap.size w wr ∧ w.heap.size ≤ d ∧ d ≠ g ∧ (Cs.memT X (k + 1)).length = m) := Lib.hid (by
          have e : Cs.memT X (k + 1) = Cs.memT X k := by rw [Cs.memT_step, hr]; rfl
          rw [e]; exact HB.out)
        clear hr
        go_wp2
        refine ⟨?_, ?measure⟩
        case measure => simp [intOf]; omega
        first
          | exact ⟨k + 1, m, d, c2, by go_num, rfl, by omega, by omega, HM⟩
          | ((repeat apply Exists.intro); exact ⟨⟨k + 1, m, d, c2, by go_num, rfl, by omega, by omega, HM⟩, rfl⟩)
      | true =>
        rw [hr] at c
        have HM : Hid (Cs.memT X (k + 1) = Cs.memT X k ++ [UInt8.ofNat k]) := Lib.hid (by rw [Cs.memT_step, hr]; rfl)
        clear hr
        go_wp2_with (at_builtin; refine wpList_append_rw _ rfl (.tmp 17) (.tmp 20) 47 47 rfl 5 (.int .u8 0) 1 Try.underlying47 info5 rfl d m c2 (cu (Cs.memT X k)) rfl (by rw [cu_length, HB.out.2.2.2.2.2]) (HB.out.2.1.chg ((Chg.refl [] _).alloc _) (by simp)) _ rfl 1 _ (Src.ofSlice _ Try.underlying47 ⟨_, 0, none⟩ 1 1 [.int .u8 k] rfl (one_new _ _ _) (one_u8 _)) (by omega) (by omega) ?_; intro d3 c3 w3 r1 r2 r3; have HN : Hid (Rw w3 g cap (bl X.getLsbD 256) 4 ∧ Rw w3 d3 c3 (cu (Cs.memT X (k + 1))) 5 ∧ Below w.heap.size w w3 ∧ w.heap.size ≤ d3 ∧ d3 ≠ g ∧ (Cs.memT X (k + 1)).length = m + 1) := Lib.hid (by
            have hsz := HB.out.2.2.1.size
            have hlt := HB.out.1.lt
            have hd := HB.out.2.2.2.1
            have hdl := HB.out.2.1.lt
            have hne := HB.out.2.2.2.2.1
            have r2' : d3 = d ∨ wr.heap.size + 1 ≤ d3 := by simpa using r2
            refine ⟨(HB.out.1.chg ((Chg.refl [] _).alloc _) (by simp)).chg r3 (by simp; omega), ?_, r3.onto (HB.out.2.2.1.alloc hsz _) (by simp; omega) (by simp; omega), by omega, by omega, by rw [HM.out, List.length_append, HB.out.2.2.2.2.2]; rfl⟩
            rw [HM.out, cu_append, cu_one k hkl]; exact r1); clear r1 r2 r3)
        go_wp2
        refine ⟨?_, ?measure⟩
        case measure => simp [intOf]; omega
        first
          | exact ⟨k + 1, m + 1, d3, c3, by go_num, rfl, by omega, by omega, HN⟩
          | ((repeat apply Exists.intro); exact ⟨⟨k + 1, m + 1, d3, c3, by go_num, rfl, by omega, by omega, HN⟩, rfl⟩)
    · obtain rfl : k = 256 := by omega
      have hcv := conv_rw wr d m c2 t (by rw [HT.out]; exact HB.out.2.1) (by rw [size_of HT.out]; exact HB.out.2.2.2.2.2)
      go_wp2
      go_ret
      exact ⟨rfl, HB.out.2.2.1⟩
end Go.Proofs.Ytkihlnomchhiiaa
