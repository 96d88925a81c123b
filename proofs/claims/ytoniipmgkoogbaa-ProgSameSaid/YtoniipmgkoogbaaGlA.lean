/- Several texts in one. -/
import Derived.Test.YtoniipmgkoogbaaGl
import Derived.Test.YtoniipmgkoogbaaCsB
/- Contracts of patterns as texts: the item with which a text begins. -/
namespace Go.Proofs.Ytoniipmgkoogbaa
open Go.ChangeShapes Go.WideShapes Go.ChangeAt Go.RowKit
set_option linter.unusedSimpArgs false
set_option linter.unusedVariables false

theorem ofL_one (b : UInt8) : Cs.ofL [b] = Cs.bitS b.toNat := by simp [Cs.ofL]
theorem gl_read_run (s : ByteArray) (rest : List UInt8) (hs : s.size ≤ 1000000) (h : s.data.toList = 42 :: rest) (w : World) :
    Calls Try.prog 35 #[.string s] w fun e w' => e = .returned (.tuple #[Cs.it true 0, .int .i64 1, .int .i64 0]) ∧ Below w.heap.size w w' := by
  obtain ⟨l0, e0⟩ := at_of (i := 0) h rfl
  have c0' : (s[0].toNat : Int) = 42 := by rw [e0]; rfl
  clear e0 h
  have hc : Hid (IB (w.alloc (.cells #[.bool false, .int .u64 0, .int .u64 0, .int .u64 0, .int .u64 0] 69)) w.heap.size false 0 ∧ Below w.heap.size w (w.alloc (.cells #[.bool false, .int .u64 0, .int .u64 0, .int .u64 0, .int .u64 0] 69))) := Lib.hid ⟨IB.zero w, (Below.refl _ _).alloc (Nat.le_refl _) _⟩
  go_enter Try.func35, Try.ntmps35
  go_upto_region 1 with fail
  revert hc
  generalize w.alloc (.cells #[.bool false, .int .u64 0, .int .u64 0, .int .u64 0, .int .u64 0] 69) = W
  intro hc
  have db := Blk.cell hc.out.1 (i := 0) rfl
  have d0 := Blk.cell hc.out.1 (i := 1) rfl
  have d1 := Blk.cell hc.out.1 (i := 2) rfl
  have d2 := Blk.cell hc.out.1 (i := 3) rfl
  have d3 := Blk.cell hc.out.1 (i := 4) rfl
  have df0 := Blk.free hc.out.1 0
  have df1 := Blk.free hc.out.1 1
  have df2 := Blk.free hc.out.1 2
  have df3 := Blk.free hc.out.1 3
  have df4 := Blk.free hc.out.1 4
  go_wp2
  have hr := Lib.hid (show IB (((((W.setCell ⟨w.heap.size, 0, none⟩ (.bool true)).setCell ⟨w.heap.size, 1, none⟩ (.int .u64 0)).setCell ⟨w.heap.size, 2, none⟩ (.int .u64 0)).setCell ⟨w.heap.size, 3, none⟩ (.int .u64 0)).setCell ⟨w.heap.size, 4, none⟩ (.int .u64 0)) w.heap.size true 0 ∧ Below w.heap.size w (((((W.setCell ⟨w.heap.size, 0, none⟩ (.bool true)).setCell ⟨w.heap.size, 1, none⟩ (.int .u64 0)).setCell ⟨w.heap.size, 2, none⟩ (.int .u64 0)).setCell ⟨w.heap.size, 3, none⟩ (.int .u64 0)).setCell ⟨w.heap.size, 4, none⟩ (.int .u64 0)) from hc.out.1.res hc.out.2 (Nat.le_refl _) true 0)
  clear db d0 d1 d2 d3 df0 df1 df2 df3 df4 hc
  revert hr
  generalize ((((W.setCell ⟨w.heap.size, 0, none⟩ (.bool true)).setCell ⟨w.heap.size, 1, none⟩ (.int .u64 0)).setCell ⟨w.heap.size, 2, none⟩ (.int .u64 0)).setCell ⟨w.heap.size, 3, none⟩ (.int .u64 0)).setCell ⟨w.heap.size, 4, none⟩ (.int .u64 0) = W9
  intro hr
  have cb := Blk.cell hr.out.1 (i := 0) rfl
  have c0 := Blk.cell hr.out.1 (i := 1) rfl
  have c1 := Blk.cell hr.out.1 (i := 2) rfl
  have c2 := Blk.cell hr.out.1 (i := 3) rfl
  have c3 := Blk.cell hr.out.1 (i := 4) rfl
  refine bodyPost_ret (v := .tuple #[.agg #[.bool true, .int .u64 (Cs.wd 0 0), .int .u64 (Cs.wd 0 1), .int .u64 (Cs.wd 0 2), .int .u64 (Cs.wd 0 3)], .int .i64 1, .int .i64 0]) (by simp [results, Try.results35, go_sem, cb, c0, c1, c2, c3]) rfl ?_
  exact ⟨rfl, hr.out.2⟩
theorem gl_read_any (s : ByteArray) (rest : List UInt8) (hs : s.size ≤ 1000000) (h : s.data.toList = 63 :: rest) (w : World) :
    Calls Try.prog 35 #[.string s] w fun e w' => e = .returned (.tuple #[Cs.it false Cs.all, .int .i64 1, .int .i64 0]) ∧ Below w.heap.size w w' := by
  obtain ⟨F, hF⟩ : ∃ F, Cs.all = F := ⟨_, rfl⟩
  have HF : Hid (Cs.all = F) := Lib.hid hF
  rw [hF]
  obtain ⟨l0, e0⟩ := at_of (i := 0) h rfl
  have c0' : (s[0].toNat : Int) = 63 := by rw [e0]; rfl
  clear e0 h hF
  have hc : Hid (IB (w.alloc (.cells #[.bool false, .int .u64 0, .int .u64 0, .int .u64 0, .int .u64 0] 69)) w.heap.size false 0 ∧ Below w.heap.size w (w.alloc (.cells #[.bool false, .int .u64 0, .int .u64 0, .int .u64 0, .int .u64 0] 69))) := Lib.hid ⟨IB.zero w, (Below.refl _ _).alloc (Nat.le_refl _) _⟩
  go_enter Try.func35, Try.ntmps35
  go_upto_region 1 with fail
  revert hc
  generalize w.alloc (.cells #[.bool false, .int .u64 0, .int .u64 0, .int .u64 0, .int .u64 0] 69) = W
  intro hc
  have db := Blk.cell hc.out.1 (i := 0) rfl
  have d0 := Blk.cell hc.out.1 (i := 1) rfl
  have d1 := Blk.cell hc.out.1 (i := 2) rfl
  have d2 := Blk.cell hc.out.1 (i := 3) rfl
  have d3 := Blk.cell hc.out.1 (i := 4) rfl
  have df0 := Blk.free hc.out.1 0
  have df1 := Blk.free hc.out.1 1
  have df2 := Blk.free hc.out.1 2
  have df3 := Blk.free hc.out.1 3
  have df4 := Blk.free hc.out.1 4
  go_wp2_with (go_at_call 39; refine (gl_every _).mono ?_; rintro e W2 ⟨rfl, hb2⟩; rw [HF.out]; unfold Cs.sv; have HC : Hid (IB W2 w.heap.size false 0 ∧ Below w.heap.size w W2) := Lib.hid ⟨Blk.below hc.out.1 hb2 (Blk.lt hc.out.1), hc.out.2.trans (hb2.mono hc.out.2.size)⟩; clear hb2 db d0 d1 d2 d3 df0 df1 df2 df3 df4 ; have db := Blk.cell HC.out.1 (i := 0) rfl; have d0 := Blk.cell HC.out.1 (i := 1) rfl; have d1 := Blk.cell HC.out.1 (i := 2) rfl; have d2 := Blk.cell HC.out.1 (i := 3) rfl; have d3 := Blk.cell HC.out.1 (i := 4) rfl; have df0 := Blk.free HC.out.1 0; have df1 := Blk.free HC.out.1 1; have df2 := Blk.free HC.out.1 2; have df3 := Blk.free HC.out.1 3; have df4 := Blk.free HC.out.1 4)
  have hr := Lib.hid (HC.out.1.res HC.out.2 (Nat.le_refl _) false F)
  clear db d0 d1 d2 d3 df0 df1 df2 df3 df4 HC
  revert hr
  generalize ((((W2.setCell ⟨w.heap.size, 0, none⟩ (.bool false)).setCell ⟨w.heap.size, 1, none⟩ (.int .u64 (Cs.wd F 0))).setCell ⟨w.heap.size, 2, none⟩ (.int .u64 (Cs.wd F 1))).setCell ⟨w.heap.size, 3, none⟩ (.int .u64 (Cs.wd F 2))).setCell ⟨w.heap.size, 4, none⟩ (.int .u64 (Cs.wd F 3)) = W9
  intro hr
  have cb := Blk.cell hr.out.1 (i := 0) rfl
  have c0 := Blk.cell hr.out.1 (i := 1) rfl
  have c1 := Blk.cell hr.out.1 (i := 2) rfl
  have c2 := Blk.cell hr.out.1 (i := 3) rfl
  have c3 := Blk.cell hr.out.1 (i := 4) rfl
  refine bodyPost_ret (v := .tuple #[.agg #[.bool false, .int .u64 (Cs.wd F 0), .int .u64 (Cs.wd F 1), .int .u64 (Cs.wd F 2), .int .u64 (Cs.wd F 3)], .int .i64 1, .int .i64 0]) (by simp [results, Try.results35, go_sem, cb, c0, c1, c2, c3]) rfl ?_
  exact ⟨rfl, hr.out.2⟩
set_option maxRecDepth 20000 in
theorem gl_read_one (s : ByteArray) (b : UInt8) (rest : List UInt8) (hs : s.size ≤ 1000000) (h : s.data.toList = Cs.sg7 b ++ rest) (w : World) :
    Calls Try.prog 35 #[.string s] w fun e w' => e = .returned (.tuple #[Cs.it false (Cs.bitS b.toNat), .int .i64 ((Cs.sg7 b).length : Nat), .int .i64 0]) ∧ Below w.heap.size w w' := by
  obtain ⟨F, hF⟩ : ∃ F, Cs.bitS b.toNat = F := ⟨_, rfl⟩
  rw [hF]
  by_cases hsp : b = 42 ∨ b = 63 ∨ b = 91 ∨ b = 93 ∨ b = 37
  · have e : Cs.sg7 b = [37, b] := by unfold Cs.sg7; rw [if_pos hsp]
    rw [e] at h ⊢
    obtain ⟨l0, e0⟩ := at_of (i := 0) h rfl
    obtain ⟨l1, e1⟩ := at_of (i := 1) h rfl
    have c0' : (s[0].toNat : Int) = 37 := by rw [e0]; rfl
    have n1 : ((s.size : Int) == 1) = false := by rw [beq_eq_false_iff_ne]; omega
    obtain ⟨u, hu⟩ : ∃ u, s.extract 1 2 = u := ⟨_, rfl⟩
    have HU : Hid (Cs.ofL u.data.toList = F ∧ u.size ≤ 1000000) := Lib.hid (by
      have e2 : u.data.toList = [b] := by
        rw [← hu, ByteArray.data_extract, Array.toList_extract, List.extract_eq_take_drop, h]; rfl
      exact ⟨by rw [e2, ofL_one, hF], by rw [size_of e2]; simp⟩)
    clear e0 e1 h hF e hsp
    have hc : Hid (IB (w.alloc (.cells #[.bool false, .int .u64 0, .int .u64 0, .int .u64 0, .int .u64 0] 69)) w.heap.size false 0 ∧ Below w.heap.size w (w.alloc (.cells #[.bool false, .int .u64 0, .int .u64 0, .int .u64 0, .int .u64 0] 69))) := Lib.hid ⟨IB.zero w, (Below.refl _ _).alloc (Nat.le_refl _) _⟩
    go_enter Try.func35, Try.ntmps35
    go_upto_region 1 with fail
    revert hc
    generalize w.alloc (.cells #[.bool false, .int .u64 0, .int .u64 0, .int .u64 0, .int .u64 0] 69) = W
    intro hc
    have db := Blk.cell hc.out.1 (i := 0) rfl
    have d0 := Blk.cell hc.out.1 (i := 1) rfl
    have d1 := Blk.cell hc.out.1 (i := 2) rfl
    have d2 := Blk.cell hc.out.1 (i := 3) rfl
    have d3 := Blk.cell hc.out.1 (i := 4) rfl
    have df0 := Blk.free hc.out.1 0
    have df1 := Blk.free hc.out.1 1
    have df2 := Blk.free hc.out.1 2
    have df3 := Blk.free hc.out.1 3
    have df4 := Blk.free hc.out.1 4
    go_wp2_with (go_at_call 41; refine (cs_of u HU.out.2 _).mono ?_; rintro e W2 ⟨rfl, hb2⟩; rw [HU.out.1]; unfold Cs.sv; have HC : Hid (IB W2 w.heap.size false 0 ∧ Below w.heap.size w W2) := Lib.hid ⟨Blk.below hc.out.1 hb2 (Blk.lt hc.out.1), hc.out.2.trans (hb2.mono hc.out.2.size)⟩; clear hb2 db d0 d1 d2 d3 df0 df1 df2 df3 df4 ; have db := Blk.cell HC.out.1 (i := 0) rfl; have d0 := Blk.cell HC.out.1 (i := 1) rfl; have d1 := Blk.cell HC.out.1 (i := 2) rfl; have d2 := Blk.cell HC.out.1 (i := 3) rfl; have d3 := Blk.cell HC.out.1 (i := 4) rfl; have df0 := Blk.free HC.out.1 0; have df1 := Blk.free HC.out.1 1; have df2 := Blk.free HC.out.1 2; have df3 := Blk.free HC.out.1 3; have df4 := Blk.free HC.out.1 4)
    have hr := Lib.hid (HC.out.1.res HC.out.2 (Nat.le_refl _) false F)
    clear db d0 d1 d2 d3 df0 df1 df2 df3 df4 HC
    revert hr
    generalize ((((W2.setCell ⟨w.heap.size, 0, none⟩ (.bool false)).setCell ⟨w.heap.size, 1, none⟩ (.int .u64 (Cs.wd F 0))).setCell ⟨w.heap.size, 2, none⟩ (.int .u64 (Cs.wd F 1))).setCell ⟨w.heap.size, 3, none⟩ (.int .u64 (Cs.wd F 2))).setCell ⟨w.heap.size, 4, none⟩ (.int .u64 (Cs.wd F 3)) = W9
    intro hr
    have cb := Blk.cell hr.out.1 (i := 0) rfl
    have c0 := Blk.cell hr.out.1 (i := 1) rfl
    have c1 := Blk.cell hr.out.1 (i := 2) rfl
    have c2 := Blk.cell hr.out.1 (i := 3) rfl
    have c3 := Blk.cell hr.out.1 (i := 4) rfl
    refine bodyPost_ret (v := .tuple #[.agg #[.bool false, .int .u64 (Cs.wd F 0), .int .u64 (Cs.wd F 1), .int .u64 (Cs.wd F 2), .int .u64 (Cs.wd F 3)], .int .i64 2, .int .i64 0]) (by simp [results, Try.results35, go_sem, cb, c0, c1, c2, c3]) rfl ?_
    exact ⟨rfl, hr.out.2⟩
  · have e : Cs.sg7 b = [b] := by unfold Cs.sg7; rw [if_neg hsp]
    rw [e] at h ⊢
    obtain ⟨l0, e0⟩ := at_of (i := 0) h rfl
    have k0 : ((s[0].toNat : Int) == 42) = false := by rw [e0, beq_eq_false_iff_ne]; exact fun e => hsp (by simp [u8_eq (c := b) (d := 42) e])
    have k1 : ((s[0].toNat : Int) == 63) = false := by rw [e0, beq_eq_false_iff_ne]; exact fun e => hsp (by simp [u8_eq (c := b) (d := 63) e])
    have k2 : ((s[0].toNat : Int) == 91) = false := by rw [e0, beq_eq_false_iff_ne]; exact fun e => hsp (by simp [u8_eq (c := b) (d := 91) e])
    have k3 : ((s[0].toNat : Int) == 93) = false := by rw [e0, beq_eq_false_iff_ne]; exact fun e => hsp (by simp [u8_eq (c := b) (d := 93) e])
    have k4 : ((s[0].toNat : Int) == 37) = false := by rw [e0, beq_eq_false_iff_ne]; exact fun e => hsp (by simp [u8_eq (c := b) (d := 37) e])
    obtain ⟨u, hu⟩ : ∃ u, s.extract 0 1 = u := ⟨_, rfl⟩
    have HU : Hid (Cs.ofL u.data.toList = F ∧ u.size ≤ 1000000) := Lib.hid (by
      have e2 : u.data.toList = [b] := by
        rw [← hu, ByteArray.data_extract, Array.toList_extract, List.extract_eq_take_drop, h]; rfl
      exact ⟨by rw [e2, ofL_one, hF], by rw [size_of e2]; simp⟩)
    clear e0 h hF e hsp
    have hc : Hid (IB (w.alloc (.cells #[.bool false, .int .u64 0, .int .u64 0, .int .u64 0, .int .u64 0] 69)) w.heap.size false 0 ∧ Below w.heap.size w (w.alloc (.cells #[.bool false, .int .u64 0, .int .u64 0, .int .u64 0, .int .u64 0] 69))) := Lib.hid ⟨IB.zero w, (Below.refl _ _).alloc (Nat.le_refl _) _⟩
    go_enter Try.func35, Try.ntmps35
    go_upto_region 1 with fail
    revert hc
    generalize w.alloc (.cells #[.bool false, .int .u64 0, .int .u64 0, .int .u64 0, .int .u64 0] 69) = W
    intro hc
    have db := Blk.cell hc.out.1 (i := 0) rfl
    have d0 := Blk.cell hc.out.1 (i := 1) rfl
    have d1 := Blk.cell hc.out.1 (i := 2) rfl
    have d2 := Blk.cell hc.out.1 (i := 3) rfl
    have d3 := Blk.cell hc.out.1 (i := 4) rfl
    have df0 := Blk.free hc.out.1 0
    have df1 := Blk.free hc.out.1 1
    have df2 := Blk.free hc.out.1 2
    have df3 := Blk.free hc.out.1 3
    have df4 := Blk.free hc.out.1 4
    go_wp2_with (go_at_call 41; refine (cs_of u HU.out.2 _).mono ?_; rintro e W2 ⟨rfl, hb2⟩; rw [HU.out.1]; unfold Cs.sv; have HC : Hid (IB W2 w.heap.size false 0 ∧ Below w.heap.size w W2) := Lib.hid ⟨Blk.below hc.out.1 hb2 (Blk.lt hc.out.1), hc.out.2.trans (hb2.mono hc.out.2.size)⟩; clear hb2 db d0 d1 d2 d3 df0 df1 df2 df3 df4 ; have db := Blk.cell HC.out.1 (i := 0) rfl; have d0 := Blk.cell HC.out.1 (i := 1) rfl; have d1 := Blk.cell HC.out.1 (i := 2) rfl; have d2 := Blk.cell HC.out.1 (i := 3) rfl; have d3 := Blk.cell HC.out.1 (i := 4) rfl; have df0 := Blk.free HC.out.1 0; have df1 := Blk.free HC.out.1 1; have df2 := Blk.free HC.out.1 2; have df3 := Blk.free HC.out.1 3; have df4 := Blk.free HC.out.1 4)
    have hr := Lib.hid (HC.out.1.res HC.out.2 (Nat.le_refl _) false F)
    clear db d0 d1 d2 d3 df0 df1 df2 df3 df4 HC
    revert hr
    generalize ((((W2.setCell ⟨w.heap.size, 0, none⟩ (.bool false)).setCell ⟨w.heap.size, 1, none⟩ (.int .u64 (Cs.wd F 0))).setCell ⟨w.heap.size, 2, none⟩ (.int .u64 (Cs.wd F 1))).setCell ⟨w.heap.size, 3, none⟩ (.int .u64 (Cs.wd F 2))).setCell ⟨w.heap.size, 4, none⟩ (.int .u64 (Cs.wd F 3)) = W9
    intro hr
    have cb := Blk.cell hr.out.1 (i := 0) rfl
    have c0 := Blk.cell hr.out.1 (i := 1) rfl
    have c1 := Blk.cell hr.out.1 (i := 2) rfl
    have c2 := Blk.cell hr.out.1 (i := 3) rfl
    have c3 := Blk.cell hr.out.1 (i := 4) rfl
    refine bodyPost_ret (v := .tuple #[.agg #[.bool false, .int .u64 (Cs.wd F 0), .int .u64 (Cs.wd F 1), .int .u64 (Cs.wd F 2), .int .u64 (Cs.wd F 3)], .int .i64 1, .int .i64 0]) (by simp [results, Try.results35, go_sem, cb, c0, c1, c2, c3]) rfl ?_
    exact ⟨rfl, hr.out.2⟩
set_option maxRecDepth 20000 in
theorem gl_read_set (s : ByteArray) (X : BitVec 256) (rest : List UInt8) (hs : s.size ≤ 1000000) (h : s.data.toList = Cs.prt X ++ rest) (w : World) :
    Calls Try.prog 35 #[.string s] w fun e w' => e = .returned (.tuple #[Cs.it false X, .int .i64 ((Cs.prt X).length : Nat), .int .i64 0]) ∧ Below w.heap.size w w' := by
  obtain ⟨p, hp⟩ := text_mk (Cs.prt X)
  obtain ⟨q, hq⟩ := text_mk rest
  obtain ⟨n, hn⟩ : ∃ n, p.size = n := ⟨_, rfl⟩
  have HP := Lib.hid (And.intro hp (And.intro (show p ++ q = s from text_ext (by rw [ByteArray.data_append, Array.toList_append, hp, hq, h])) hn))
  rw [← size_of hp, hn]
  obtain ⟨r, hr⟩ := prt_head X
  obtain ⟨l0, e0⟩ := at_of (i := 0) h (by rw [hr]; rfl)
  have c0' : (s[0].toNat : Int) = 91 := by rw [e0]; rfl
  have HS := Lib.hid hs
  clear e0 hr h hp hq hn
  have hc : Hid (IB (w.alloc (.cells #[.bool false, .int .u64 0, .int .u64 0, .int .u64 0, .int .u64 0] 69)) w.heap.size false 0 ∧ Below w.heap.size w (w.alloc (.cells #[.bool false, .int .u64 0, .int .u64 0, .int .u64 0, .int .u64 0] 69))) := Lib.hid ⟨IB.zero w, (Below.refl _ _).alloc (Nat.le_refl _) _⟩
  go_enter Try.func35, Try.ntmps35
  go_upto_region 1 with fail
  revert hc
  generalize w.alloc (.cells #[.bool false, .int .u64 0, .int .u64 0, .int .u64 0, .int .u64 0] 69) = W
  intro hc
  have db := Blk.cell hc.out.1 (i := 0) rfl
  have d0 := Blk.cell hc.out.1 (i := 1) rfl
  have d1 := Blk.cell hc.out.1 (i := 2) rfl
  have d2 := Blk.cell hc.out.1 (i := 3) rfl
  have d3 := Blk.cell hc.out.1 (i := 4) rfl
  have df0 := Blk.free hc.out.1 0
  have df1 := Blk.free hc.out.1 1
  have df2 := Blk.free hc.out.1 2
  have df3 := Blk.free hc.out.1 3
  have df4 := Blk.free hc.out.1 4
  go_upto_region 10 with (go_at_call 40; refine (read_back X p s q HP.out.1 HP.out.2.1 HS.out _).mono ?_; rintro e W2 ⟨rfl, hb2⟩; rw [HP.out.2.2]; unfold Cs.sv; have HC : Hid (SB (W2.alloc (.cells #[.int .u64 (Cs.wd X 0), .int .u64 (Cs.wd X 1), .int .u64 (Cs.wd X 2), .int .u64 (Cs.wd X 3)] 67)) W2.heap.size X ∧ IB (W2.alloc (.cells #[.int .u64 (Cs.wd X 0), .int .u64 (Cs.wd X 1), .int .u64 (Cs.wd X 2), .int .u64 (Cs.wd X 3)] 67)) w.heap.size false 0 ∧ Below w.heap.size w (W2.alloc (.cells #[.int .u64 (Cs.wd X 0), .int .u64 (Cs.wd X 1), .int .u64 (Cs.wd X 2), .int .u64 (Cs.wd X 3)] 67))) := Lib.hid ⟨SB.new W2 X, Blk.alloc (Blk.below hc.out.1 hb2 (Blk.lt hc.out.1)) _, (hc.out.2.trans (hb2.mono hc.out.2.size)).alloc (by have := hc.out.2.size; have := hb2.size; omega) _⟩; clear hb2 db d0 d1 d2 d3 df0 df1 df2 df3 df4 )
  revert HC
  generalize W2.alloc (.cells #[.int .u64 (Cs.wd X 0), .int .u64 (Cs.wd X 1), .int .u64 (Cs.wd X 2), .int .u64 (Cs.wd X 3)] 67) = V
  generalize W2.heap.size = D
  intro HC
  have x0 := HC.out.1.at (i := 0) (by decide)
  have x1 := HC.out.1.at (i := 1) (by decide)
  have x2 := HC.out.1.at (i := 2) (by decide)
  have x3 := HC.out.1.at (i := 3) (by decide)
  have db := Blk.cell HC.out.2.1 (i := 0) rfl
  have d0 := Blk.cell HC.out.2.1 (i := 1) rfl
  have d1 := Blk.cell HC.out.2.1 (i := 2) rfl
  have d2 := Blk.cell HC.out.2.1 (i := 3) rfl
  have d3 := Blk.cell HC.out.2.1 (i := 4) rfl
  have df0 := Blk.free HC.out.2.1 0
  have df1 := Blk.free HC.out.2.1 1
  have df2 := Blk.free HC.out.2.1 2
  have df3 := Blk.free HC.out.2.1 3
  have df4 := Blk.free HC.out.2.1 4
  go_wp2
  have hr := Lib.hid (HC.out.2.1.res HC.out.2.2 (Nat.le_refl _) false X)
  clear x0 x1 x2 x3 db d0 d1 d2 d3 df0 df1 df2 df3 df4 HC
  revert hr
  generalize ((((V.setCell ⟨w.heap.size, 0, none⟩ (.bool false)).setCell ⟨w.heap.size, 1, none⟩ (.int .u64 (Cs.wd X 0))).setCell ⟨w.heap.size, 2, none⟩ (.int .u64 (Cs.wd X 1))).setCell ⟨w.heap.size, 3, none⟩ (.int .u64 (Cs.wd X 2))).setCell ⟨w.heap.size, 4, none⟩ (.int .u64 (Cs.wd X 3)) = W9
  intro hr
  have cb := Blk.cell hr.out.1 (i := 0) rfl
  have c0 := Blk.cell hr.out.1 (i := 1) rfl
  have c1 := Blk.cell hr.out.1 (i := 2) rfl
  have c2 := Blk.cell hr.out.1 (i := 3) rfl
  have c3 := Blk.cell hr.out.1 (i := 4) rfl
  refine bodyPost_ret (v := .tuple #[.agg #[.bool false, .int .u64 (Cs.wd X 0), .int .u64 (Cs.wd X 1), .int .u64 (Cs.wd X 2), .int .u64 (Cs.wd X 3)], .int .i64 n, .int .i64 0]) (by simp [results, Try.results35, go_sem, cb, c0, c1, c2, c3]) rfl ?_
  exact ⟨rfl, hr.out.2⟩
/-- An item's text. -/
def Cs.itx (r : Bool) (X : BitVec 256) : List UInt8 := if r then [42] else if X = Cs.all then [63] else match Cs.memT X 256 with | [c] => Cs.sg7 c | _ => Cs.prt X
theorem mem_one (X : BitVec 256) (c : UInt8) (h : Cs.memT X 256 = [c]) : Cs.bitS c.toNat = X := by
  refine Cs.ext_get fun i hi => ?_
  rw [← Cs.mem_any X i hi, h, Cs.bitS_get]
  have := c.toNat_lt
  by_cases e : c.toNat = i <;> simp [e, hi]
/-- An item, whichever may be. -/
theorem gl_read (s : ByteArray) (r : Bool) (X : BitVec 256) (rest : List UInt8) (hs : s.size ≤ 1000000) (h : s.data.toList = Cs.itx r X ++ rest) (hg : r = true → X = 0) (w : World) :
    Calls Try.prog 35 #[.string s] w fun e w' => e = .returned (.tuple #[Cs.it r X, .int .i64 ((Cs.itx r X).length : Nat), .int .i64 0]) ∧ Below w.heap.size w w' := by
  cases r with
  | true =>
    obtain rfl := hg rfl
    exact gl_read_run s rest hs h w
  | false =>
    by_cases ha : X = Cs.all
    · subst ha
      have e : Cs.itx false Cs.all = [63] := by unfold Cs.itx; rw [if_neg (by simp), if_pos rfl]
      rw [e] at h ⊢
      exact gl_read_any s rest hs h w
    · by_cases hm : ∃ c, Cs.memT X 256 = [c]
      · obtain ⟨c, hc⟩ := hm
        have e : Cs.itx false X = Cs.sg7 c := by unfold Cs.itx; rw [if_neg (by simp), if_neg ha, hc]
        rw [e] at h ⊢
        have k := gl_read_one s c rest hs h w
        rwa [mem_one X c hc] at k
      · have e : Cs.itx false X = Cs.prt X := by
          unfold Cs.itx
          rw [if_neg (by simp), if_neg ha]
          split
          · rename_i c hc; exact absurd ⟨c, hc⟩ hm
          · rfl
        rw [e] at h ⊢
        exact gl_read_set s X rest hs h w
theorem itx_le (r : Bool) (X : BitVec 256) : 1 ≤ (Cs.itx r X).length ∧ (Cs.itx r X).length ≤ 1283 := by
  unfold Cs.itx
  split
  · simp
  · split
    · simp
    · split
      · rename_i c _
        have := sg7_len c
        omega
      · have := prt_le X
        obtain ⟨q, hq⟩ := prt_head X
        rw [hq] at this ⊢
        simp at this ⊢; omega
end Go.Proofs.Ytoniipmgkoogbaa
/- Contracts of patterns as texts: the pattern of a text that is one. -/
namespace Go.Proofs.Ytoniipmgkoogbaa
open Go.ChangeShapes Go.WideShapes Go.ChangeAt Go.RowKit
set_option linter.unusedSimpArgs false
set_option linter.unusedVariables false

theorem infoI : (Try.prog.info? 69).map (fun i => (i.zero, i.size, i.bytes)) = some (some (.agg #[.bool false, .int .u64 0, .int .u64 0, .int .u64 0, .int .u64 0]), 5, 40) := by kernel_rfl
/-- Items as cells. -/
def its : List (Bool × BitVec 256) → List Value
  | [] => []
  | x :: l => .bool x.1 :: .int .u64 (Cs.wd x.2 0) :: .int .u64 (Cs.wd x.2 1) :: .int .u64 (Cs.wd x.2 2) :: .int .u64 (Cs.wd x.2 3) :: its l
theorem its_append : ∀ l m, its (l ++ m) = its l ++ its m
  | [], m => rfl
  | x :: l, m => by simp [its, its_append l m]
theorem its_length : ∀ l, (its l).length = l.length * 5
  | [] => rfl
  | x :: l => by simp [its, its_length l]; omega
theorem info_split {P : Program} {e : TypeId} {z : Value} {a b : Nat} (h : (P.info? e).map (fun i => (i.zero, i.size, i.bytes)) = some (some z, a, b)) : ∃ i, P.info? e = some i ∧ i.zero = some z ∧ i.size = a ∧ i.bytes = b := by
  obtain ⟨i, hi, hz⟩ := Option.map_eq_some_iff.1 h
  simp only [Prod.mk.injEq] at hz
  exact ⟨i, hi, hz.1, hz.2.1, hz.2.2⟩
theorem new_cells (w : World) (cs : Array Value) (T : TypeId) (j : Nat) (u : Value) (hj : cs.toList[j]? = some u) : (w.alloc (.cells cs T)).cell? ((⟨w.heap.size, 0, none⟩ : Addr).add j) = some u := by
  have e2 : (({ block := w.heap.size, off := 0, spot := none } : Addr).add j) = ⟨w.heap.size, j, none⟩ := by simp [Addr.add]; omega
  rw [e2]
  exact (Blk.newA w cs T).cell hj
theorem one_item (r : Bool) (a b c d : Int) : ∀ u ∈ [Value.bool r, .int .u64 a, .int .u64 b, .int .u64 c, .int .u64 d], u.oneCell' = true := by
  intro u hu; simp at hu; rcases hu with rfl | rfl | rfl | rfl | rfl <;> rfl
theorem own_slice {w : World} {base : Nat} {e : TypeId} {size : Nat} {v : Value} {n : Nat} {xs : List Value} (h : w.ownsRow base e size v n xs) : ∃ a c, v = .slice a n c := by
  rcases h.2 with ⟨h1, h2⟩ | ⟨g, cap, cur, h1, _⟩
  · subst h2; exact ⟨none, 0, h1⟩
  · exact ⟨_, cap, h1⟩
/-- Whether items may be: a run has no set. -/
def okI (l : List (Bool × BitVec 256)) : Prop := ∀ x ∈ l, x.1 = true → x.2 = 0
def Cs.itxs (l : List (Bool × BitVec 256)) : List UInt8 := l.flatMap fun x => Cs.itx x.1 x.2
theorem itxs_cons (x : Bool × BitVec 256) (l : List (Bool × BitVec 256)) : Cs.itxs (x :: l) = Cs.itx x.1 x.2 ++ Cs.itxs l := by simp [Cs.itxs]
theorem itxs_append (l m : List (Bool × BitVec 256)) : Cs.itxs (l ++ m) = Cs.itxs l ++ Cs.itxs m := by simp [Cs.itxs]
set_option maxRecDepth 20000 in
set_option maxHeartbeats 1000000 in
theorem gl_parse (s : ByteArray) (l : List (Bool × BitVec 256)) (hs : s.size ≤ 1000000) (h : s.data.toList = Cs.itxs l) (hok : okI l) (hl : l.length ≤ 60) (w : World) :
    Calls Try.prog 33 #[.string s] w fun e w' => ∃ v, e = .returned (.tuple #[v, .int .i64 0, .int .i64 0]) ∧ w'.ownsRow w.heap.size 69 5 v l.length (its l) ∧ Below w.heap.size w w' := by
  obtain ⟨i0, hi, hz0, hz1, hz2⟩ := info_split infoI
  have HI := Lib.hid hi
  have HI0 := Lib.hid hz0
  have HI1 := Lib.hid hz1
  have HI2 := Lib.hid hz2
  obtain ⟨n, hn⟩ : ∃ n, s.size = n := ⟨_, rfl⟩
  have HP := Lib.hid (And.intro h (And.intro hok (And.intro hl hn)))
  have hn6 : n ≤ 1000000 := by omega
  clear hi hz0 hz1 hz2 h hok hl hs
  go_enter Try.func33, Try.ntmps33
  go_wp2
  go_loopw [5, 6] (fun v i wr => ∃ (k : Nat) (done todo : List (Bool × BitVec 256)), i = .int .i64 k ∧ k ≤ n ∧ Hid (l = done ++ todo ∧ s.data.toList.drop k = Cs.itxs todo) ∧ Hid (wr.ownsRow w.heap.size 69 5 v done.length (its done) ∧ Below w.heap.size w wr)) (fun _ i _ => n - (intOf i).toNat)
  case atStart => exact ⟨0, [], l, rfl, by omega, Lib.hid ⟨rfl, HP.out.1⟩, Lib.hid ⟨World.ownsRow_nil _ _ _ _, Below.refl _ _⟩⟩
  case round =>
    obtain ⟨k, done, todo, rfl, hk, HD, HB⟩ := hrel
    have j0 : (0 : Int) ≤ (k : Int) := by omega
    have hlen : s.data.toList.length = n := by rw [Array.length_toList]; exact hn
    cases todo with
    | nil =>
      have hkn : k = n := by
        have := congrArg List.length HD.out.2
        rw [List.length_drop, hlen] at this
        simp [Cs.itxs] at this
        omega
      have hD : Hid (l = done) := Lib.hid (by have := HD.out.1; simpa using this)
      clear hlen
      subst hkn
      go_wp2
      go_ret3
      exact ⟨u5, rfl, by rw [hD.out]; exact HB.out.1, HB.out.2⟩
    | cons x todo =>
      obtain ⟨r, X⟩ := x
      obtain ⟨j, hj⟩ : ∃ j, (Cs.itx r X).length = j := ⟨_, rfl⟩
      have hj1 : 1 ≤ j := by rw [← hj]; exact (itx_le r X).1
      have hkj : k + j ≤ n := by
        have := congrArg List.length HD.out.2
        rw [List.length_drop, hlen, itxs_cons, List.length_append, hj] at this
        omega
      have hkn : k < n := by omega
      obtain ⟨d, hd⟩ : ∃ d, done.length = d := ⟨_, rfl⟩
      have hd60 : d < 60 := by
        have := congrArg List.length HD.out.1
        rw [List.length_append, List.length_cons, hd] at this
        have := HP.out.2.2.1
        omega
      have hd6 : ((d : Int) == 60) = false := by rw [beq_eq_false_iff_ne]; omega
      obtain ⟨a, c, hv⟩ := own_slice HB.out.1
      rw [hd] at hv
      subst hv
      obtain ⟨u, hu⟩ : ∃ u, s.extract k n = u := ⟨_, rfl⟩
      have HU : Hid (u.data.toList = Cs.itx r X ++ Cs.itxs todo ∧ u.size ≤ 1000000 ∧ (r = true → X = 0)) := Lib.hid (by
        have e := ext_drop hn hu
        rw [HD.out.2, itxs_cons] at e
        refine ⟨e, ?_, HP.out.2.1 (r, X) (by rw [HD.out.1]; simp)⟩
        have e2 : u.data.toList.length ≤ n := by rw [ext_drop hn hu, List.length_drop, hlen]; omega
        rw [size_of rfl]; omega)
      have HD2 : Hid (l = (done ++ [(r, X)]) ++ todo ∧ s.data.toList.drop (k + j) = Cs.itxs todo) := Lib.hid ⟨by rw [HD.out.1]; simp, by rw [← List.drop_drop, HD.out.2, itxs_cons, ← hj, List.drop_left]⟩
      have HL := Lib.hid (And.intro hj hd)
      have w1 : IntKind.i64.wrap ((k : Int) + j) = (k : Int) + j := IntWalk.i64_in _ (by omega)
      clear hlen hj
      go_upto_region 9 with (go_at_call 35; refine (gl_read u r X _ HU.out.2.1 HU.out.1 HU.out.2.2 _).mono ?_; rintro e W1 ⟨rfl, hb1⟩; rw [HL.out.1]; unfold Cs.it; have HB1 : Hid (IB (W1.alloc (.cells #[.bool r, .int .u64 (Cs.wd X 0), .int .u64 (Cs.wd X 1), .int .u64 (Cs.wd X 2), .int .u64 (Cs.wd X 3)] 69)) W1.heap.size r X ∧ (W1.alloc (.cells #[.bool r, .int .u64 (Cs.wd X 0), .int .u64 (Cs.wd X 1), .int .u64 (Cs.wd X 2), .int .u64 (Cs.wd X 3)] 69)).ownsRow w.heap.size 69 5 (.slice a d c) d (its done) ∧ Below w.heap.size w (W1.alloc (.cells #[.bool r, .int .u64 (Cs.wd X 0), .int .u64 (Cs.wd X 1), .int .u64 (Cs.wd X 2), .int .u64 (Cs.wd X 3)] 69))) := Lib.hid ⟨IB.new W1 r X, by have := (own_below HB.out.1 hb1).alloc (.cells #[.bool r, .int .u64 (Cs.wd X 0), .int .u64 (Cs.wd X 1), .int .u64 (Cs.wd X 2), .int .u64 (Cs.wd X 3)] 69); rw [HL.out.2] at this; exact this, (HB.out.2.trans (hb1.mono HB.out.2.size)).alloc (by have := HB.out.2.size; have := hb1.size; omega) _⟩; clear hb1)
      clear HB
      revert HB1
      generalize W1.alloc (.cells #[.bool r, .int .u64 (Cs.wd X 0), .int .u64 (Cs.wd X 1), .int .u64 (Cs.wd X 2), .int .u64 (Cs.wd X 3)] 69) = V
      generalize W1.heap.size = D
      intro HB1
      have yb := Blk.cell HB1.out.1 (i := 0) rfl
      have y0 := Blk.cell HB1.out.1 (i := 1) rfl
      have y1 := Blk.cell HB1.out.1 (i := 2) rfl
      have y2 := Blk.cell HB1.out.1 (i := 3) rfl
      have y3 := Blk.cell HB1.out.1 (i := 4) rfl
      go_wp2_with (at_builtin; refine wpList_append_own _ rfl _ _ 60 rfl w.heap.size 69 i0 (.agg #[.bool false, .int .u64 0, .int .u64 0, .int .u64 0, .int .u64 0]) 5 40 Try.underlying60 HI.out HI0.out HI1.out HI2.out rfl (by decide) _ _ _ rfl (HB1.out.2.1.alloc _) ⟨V.heap.size, 0, none⟩ 1 1 [.bool r, .int .u64 (Cs.wd X 0), .int .u64 (Cs.wd X 1), .int .u64 (Cs.wd X 2), .int .u64 (Cs.wd X 3)] rfl rfl (new_cells _ _ _) (one_item _ _ _ _ _) (by unfold maxLen; omega) (by omega) (by have := HB1.out.2.2.size; simp; omega) ?_)
      intro v' w3 hown hgrow _
      have HN : Hid (w3.ownsRow w.heap.size 69 5 v' (done ++ [(r, X)]).length (its (done ++ [(r, X)])) ∧ Below w.heap.size w w3) := by
        have hs := HB1.out.2.2.size
        refine Lib.hid ⟨?_, (HB1.out.2.2.alloc hs _).grown hgrow (by simp; omega) (fun q hq => (HB1.out.2.1.lt q hq).1)⟩
        rw [its_append, List.length_append, HL.out.2]; exact hown
      clear hown hgrow
      go_wp2
      refine ⟨?_, ?measure⟩
      case measure => simp [intOf]; omega
      first
        | exact ⟨k + j, done ++ [(r, X)], todo, by go_num, by omega, HD2, HN⟩
        | ((repeat apply Exists.intro); exact ⟨⟨k + j, done ++ [(r, X)], todo, by go_num, by omega, HD2, HN⟩, rfl⟩)
end Go.Proofs.Ytoniipmgkoogbaa
/- Contracts of patterns as texts: plain bytes, by the program and by the document. -/
namespace Go.Proofs.Ytoniipmgkoogbaa
open Go.ChangeShapes Go.WideShapes Go.ChangeAt Go.RowKit
set_option linter.unusedSimpArgs false
set_option linter.unusedVariables false

/-- The text of plain bytes. -/
def Cs.pl (l : List UInt8) : List UInt8 := l.flatMap Cs.sg7
theorem pl_snoc (l : List UInt8) (b : UInt8) : Cs.pl (l ++ [b]) = Cs.pl l ++ Cs.sg7 b := by simp [Cs.pl]
theorem pl_le : ∀ l : List UInt8, (Cs.pl l).length ≤ 2 * l.length
  | [] => by simp [Cs.pl]
  | b :: l => by
    have := pl_le l
    have := (sg7_len b).2
    simp [Cs.pl] at *; omega
theorem take_snoc (s : ByteArray) (k : Nat) (h : k < s.size) : s.data.toList.take (k + 1) = s.data.toList.take k ++ [s[k]] := by
  rw [List.take_succ_eq_append_getElem (by simpa using h)]; rfl
end Go.Proofs.Ytoniipmgkoogbaa
/- Contracts of patterns as texts: an item's text. -/
namespace Go.Proofs.Ytoniipmgkoogbaa
open Go.ChangeShapes Go.WideShapes Go.ChangeAt Go.RowKit
set_option linter.unusedSimpArgs false
set_option linter.unusedVariables false

theorem eqIn_gen (X Y : BitVec 256) (w : World) : (Op.equalIn 10000 67 (.agg #[.int .u64 (Cs.wd X 0), .int .u64 (Cs.wd X 1), .int .u64 (Cs.wd X 2), .int .u64 (Cs.wd X 3)]) (.agg #[.int .u64 (Cs.wd Y 0), .int .u64 (Cs.wd Y 1), .int .u64 (Cs.wd Y 2), .int .u64 (Cs.wd Y 3)])).run Try.prog w = .ok (decide (X = Y)) w := by
  have h : ∀ n m : Int, (Op.equalIn 9999 65 (.int .u64 n) (.int .u64 m)).run Try.prog w = .ok (n == m) w := fun n m => by
    rw [run_equalIn_int w 9998 65 .u64 .u64 n m Try.underlying65]
  have hd : decide (X = Y) = (Cs.wd X 0 == Cs.wd Y 0 && (Cs.wd X 1 == Cs.wd Y 1 && (Cs.wd X 2 == Cs.wd Y 2 && Cs.wd X 3 == Cs.wd Y 3))) := by
    rw [Bool.eq_iff_iff]
    simp only [decide_eq_true_eq, Bool.and_eq_true, beq_iff_eq]
    exact ⟨fun e => by subst e; exact ⟨rfl, rfl, rfl, rfl⟩, fun ⟨a, b, c, d⟩ => Cs.sv_eq a b c d⟩
  rw [hd]
  show (Op.equalIn (9999 + 1) _ _ _).run _ _ = _
  rw [Op.equalIn]
  generalize Cs.wd X 0 = a0, Cs.wd X 1 = a1, Cs.wd X 2 = a2, Cs.wd X 3 = a3, Cs.wd Y 0 = b0, Cs.wd Y 1 = b1, Cs.wd Y 2 = b2, Cs.wd Y 3 = b3
  by_cases h0 : a0 = b0
  · by_cases h1 : a1 = b1
    · by_cases h2 : a2 = b2
      · by_cases h3 : a3 = b3
        · simp [go_sem, run_underlying Try.underlying67, Std.Legacy.Range.forIn_eq_forIn_range', Std.Legacy.Range.size, List.range', part, h, h0, h1, h2, h3]
        · have e3 : (a3 == b3) = false := by simp [h3]
          simp [go_sem, run_underlying Try.underlying67, Std.Legacy.Range.forIn_eq_forIn_range', Std.Legacy.Range.size, List.range', part, h, h0, h1, h2, e3]
      · have e2 : (a2 == b2) = false := by simp [h2]
        simp [go_sem, run_underlying Try.underlying67, Std.Legacy.Range.forIn_eq_forIn_range', Std.Legacy.Range.size, List.range', part, h, h0, h1, e2]
    · have e1 : (a1 == b1) = false := by simp [h1]
      simp [go_sem, run_underlying Try.underlying67, Std.Legacy.Range.forIn_eq_forIn_range', Std.Legacy.Range.size, List.range', part, h, h0, e1]
  · have e0 : (a0 == b0) = false := by simp [h0]
    simp [go_sem, run_underlying Try.underlying67, Std.Legacy.Range.forIn_eq_forIn_range', Std.Legacy.Range.size, List.range', part, h, e0]
theorem itx_cases (X : BitVec 256) : (X = Cs.all ∧ Cs.itx false X = [63]) ∨ (X ≠ Cs.all ∧ ∃ c, Cs.memT X 256 = [c] ∧ Cs.itx false X = Cs.sg7 c) ∨ (X ≠ Cs.all ∧ (Cs.memT X 256).length ≠ 1 ∧ Cs.itx false X = Cs.prt X) := by
  by_cases ha : X = Cs.all
  · left; subst ha; exact ⟨rfl, by unfold Cs.itx; rw [if_neg (by simp), if_pos rfl]⟩
  · by_cases hm : ∃ c, Cs.memT X 256 = [c]
    · obtain ⟨c, hc⟩ := hm
      exact Or.inr (Or.inl ⟨ha, c, hc, by unfold Cs.itx; rw [if_neg (by simp), if_neg ha, hc]⟩)
    · refine Or.inr (Or.inr ⟨ha, fun h => hm ?_, ?_⟩)
      · cases hl : Cs.memT X 256 with
        | nil => rw [hl] at h; simp at h
        | cons c r =>
          rw [hl] at h; simp at h
          exact ⟨c, by rw [h]⟩
      · unfold Cs.itx
        rw [if_neg (by simp), if_neg ha]
        split
        · rename_i c hc; exact absurd ⟨c, hc⟩ hm
        · rfl
end Go.Proofs.Ytoniipmgkoogbaa
