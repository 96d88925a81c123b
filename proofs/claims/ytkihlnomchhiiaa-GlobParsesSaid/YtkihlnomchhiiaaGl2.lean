/- Contracts of patterns as texts: the item with which a text begins. -/
import Derived.Test.YtkihlnomchhiiaaGl
import Derived.Test.YtkihlnomchhiiaaCsB
namespace Go.Proofs.Ytkihlnomchhiiaa
open Go.ChangeShapes Go.WideShapes Go.ChangeAt Go.RowKit
set_option linter.unusedSimpArgs false
set_option linter.unusedVariables false

theorem ofL_one (b : UInt8) : Cs.ofL [b] = Cs.bitS b.toNat := by simp [Cs.ofL]
theorem gl_read_run (s : ByteArray) (rest : List UInt8) (hs : s.size ≤ 1000000) (h : s.data.toList = 42 :: rest) (w : World) :
    Calls Try.prog 20 #[.string s] w fun e w' => e = .returned (.tuple #[Cs.it true 0, .int .i64 1, .int .i64 0]) ∧ Below w.heap.size w w' := by
  obtain ⟨l0, e0⟩ := at_of (i := 0) h rfl
  have c0' : (s[0].toNat : Int) = 42 := by rw [e0]; rfl
  clear e0 h
  have hc : Hid (IB (w.alloc (.cells #[.bool false, .int .u64 0, .int .u64 0, .int .u64 0, .int .u64 0] 40)) w.heap.size false 0 ∧ Below w.heap.size w (w.alloc (.cells #[.bool false, .int .u64 0, .int .u64 0, .int .u64 0, .int .u64 0] 40))) := Lib.hid ⟨IB.zero w, (Below.refl _ _).alloc (Nat.le_refl _) _⟩
  go_enter Try.func20, Try.ntmps20
  go_upto_region 1 with fail
  revert hc
  generalize w.alloc (.cells #[.bool false, .int .u64 0, .int .u64 0, .int .u64 0, .int .u64 0] 40) = W
  intro hc
  have db := Blk.cell hc.out.1 (i := 0) rfl
  have d0 := Blk.cell hc.out.1 (i := 1) rfl
  have d1 := Blk.cell hc.out.1 (i := 2) rfl
  have d2 := Blk.cell hc.out.1 (i := 3) rfl
  have d3 := Blk.cell hc.out.1 (i := 4) rfl
  have df0 := Blk.free hc.out.1 0
  have df1 := Blk.free hc.out.1 1
  have df2 := Blk.free hc.out.1 2
  have df3 := Blk.free hc.out.1 3
  have df4 := Blk.free hc.out.1 4
  go_wp2
  have hr := Lib.hid (show IB (((((W.setCell ⟨w.heap.size, 0, none⟩ (.bool true)).setCell ⟨w.heap.size, 1, none⟩ (.int .u64 0)).setCell ⟨w.heap.size, 2, none⟩ (.int .u64 0)).setCell ⟨w.heap.size, 3, none⟩ (.int .u64 0)).setCell ⟨w.heap.size, 4, none⟩ (.int .u64 0)) w.heap.size true 0 ∧ Below w.heap.size w (((((W.setCell ⟨w.heap.size, 0, none⟩ (.bool true)).setCell ⟨w.heap.size, 1, none⟩ (.int .u64 0)).setCell ⟨w.heap.size, 2, none⟩ (.int .u64 0)).setCell ⟨w.heap.size, 3, none⟩ (.int .u64 0)).setCell ⟨w.heap.size, 4, none⟩ (.int .u64 0)) from hc.out.1.res hc.out.2 (Nat.le_refl _) true 0)
  clear db d0 d1 d2 d3 df0 df1 df2 df3 df4 hc
  revert hr
  generalize ((((W.setCell ⟨w.heap.size, 0, none⟩ (.bool true)).setCell ⟨w.heap.size, 1, none⟩ (.int .u64 0)).setCell ⟨w.heap.size, 2, none⟩ (.int .u64 0)).setCell ⟨w.heap.size, 3, none⟩ (.int .u64 0)).setCell ⟨w.heap.size, 4, none⟩ (.int .u64 0) = W9
  intro hr
  have cb := Blk.cell hr.out.1 (i := 0) rfl
  have c0 := Blk.cell hr.out.1 (i := 1) rfl
  have c1 := Blk.cell hr.out.1 (i := 2) rfl
  have c2 := Blk.cell hr.out.1 (i := 3) rfl
  have c3 := Blk.cell hr.out.1 (i := 4) rfl
  refine bodyPost_ret (v := .tuple #[.agg #[.bool true, .int .u64 (Cs.wd 0 0), .int .u64 (Cs.wd 0 1), .int .u64 (Cs.wd 0 2), .int .u64 (Cs.wd 0 3)], .int .i64 1, .int .i64 0]) (by simp [results, Try.results20, go_sem, cb, c0, c1, c2, c3]) rfl ?_
  exact ⟨rfl, hr.out.2⟩
theorem gl_read_any (s : ByteArray) (rest : List UInt8) (hs : s.size ≤ 1000000) (h : s.data.toList = 63 :: rest) (w : World) :
    Calls Try.prog 20 #[.string s] w fun e w' => e = .returned (.tuple #[Cs.it false Cs.all, .int .i64 1, .int .i64 0]) ∧ Below w.heap.size w w' := by
  obtain ⟨F, hF⟩ : ∃ F, Cs.all = F := ⟨_, rfl⟩
  have HF : Hid (Cs.all = F) := Lib.hid hF
  rw [hF]
  obtain ⟨l0, e0⟩ := at_of (i := 0) h rfl
  have c0' : (s[0].toNat : Int) = 63 := by rw [e0]; rfl
  clear e0 h hF
  have hc : Hid (IB (w.alloc (.cells #[.bool false, .int .u64 0, .int .u64 0, .int .u64 0, .int .u64 0] 40)) w.heap.size false 0 ∧ Below w.heap.size w (w.alloc (.cells #[.bool false, .int .u64 0, .int .u64 0, .int .u64 0, .int .u64 0] 40))) := Lib.hid ⟨IB.zero w, (Below.refl _ _).alloc (Nat.le_refl _) _⟩
  go_enter Try.func20, Try.ntmps20
  go_upto_region 1 with fail
  revert hc
  generalize w.alloc (.cells #[.bool false, .int .u64 0, .int .u64 0, .int .u64 0, .int .u64 0] 40) = W
  intro hc
  have db := Blk.cell hc.out.1 (i := 0) rfl
  have d0 := Blk.cell hc.out.1 (i := 1) rfl
  have d1 := Blk.cell hc.out.1 (i := 2) rfl
  have d2 := Blk.cell hc.out.1 (i := 3) rfl
  have d3 := Blk.cell hc.out.1 (i := 4) rfl
  have df0 := Blk.free hc.out.1 0
  have df1 := Blk.free hc.out.1 1
  have df2 := Blk.free hc.out.1 2
  have df3 := Blk.free hc.out.1 3
  have df4 := Blk.free hc.out.1 4
  go_wp2_with (go_at_call 31; refine (gl_every _).mono ?_; rintro e W2 ⟨rfl, hb2⟩; rw [HF.out]; unfold Cs.sv; have HC : Hid (IB W2 w.heap.size false 0 ∧ Below w.heap.size w W2) := Lib.hid ⟨Blk.below hc.out.1 hb2 (Blk.lt hc.out.1), hc.out.2.trans (hb2.mono hc.out.2.size)⟩; clear hb2 db d0 d1 d2 d3 df0 df1 df2 df3 df4 ; have db := Blk.cell HC.out.1 (i := 0) rfl; have d0 := Blk.cell HC.out.1 (i := 1) rfl; have d1 := Blk.cell HC.out.1 (i := 2) rfl; have d2 := Blk.cell HC.out.1 (i := 3) rfl; have d3 := Blk.cell HC.out.1 (i := 4) rfl; have df0 := Blk.free HC.out.1 0; have df1 := Blk.free HC.out.1 1; have df2 := Blk.free HC.out.1 2; have df3 := Blk.free HC.out.1 3; have df4 := Blk.free HC.out.1 4)
  have hr := Lib.hid (HC.out.1.res HC.out.2 (Nat.le_refl _) false F)
  clear db d0 d1 d2 d3 df0 df1 df2 df3 df4 HC
  revert hr
  generalize ((((W2.setCell ⟨w.heap.size, 0, none⟩ (.bool false)).setCell ⟨w.heap.size, 1, none⟩ (.int .u64 (Cs.wd F 0))).setCell ⟨w.heap.size, 2, none⟩ (.int .u64 (Cs.wd F 1))).setCell ⟨w.heap.size, 3, none⟩ (.int .u64 (Cs.wd F 2))).setCell ⟨w.heap.size, 4, none⟩ (.int .u64 (Cs.wd F 3)) = W9
  intro hr
  have cb := Blk.cell hr.out.1 (i := 0) rfl
  have c0 := Blk.cell hr.out.1 (i := 1) rfl
  have c1 := Blk.cell hr.out.1 (i := 2) rfl
  have c2 := Blk.cell hr.out.1 (i := 3) rfl
  have c3 := Blk.cell hr.out.1 (i := 4) rfl
  refine bodyPost_ret (v := .tuple #[.agg #[.bool false, .int .u64 (Cs.wd F 0), .int .u64 (Cs.wd F 1), .int .u64 (Cs.wd F 2), .int .u64 (Cs.wd F 3)], .int .i64 1, .int .i64 0]) (by simp [results, Try.results20, go_sem, cb, c0, c1, c2, c3]) rfl ?_
  exact ⟨rfl, hr.out.2⟩
set_option maxRecDepth 20000 in
theorem gl_read_one (s : ByteArray) (b : UInt8) (rest : List UInt8) (hs : s.size ≤ 1000000) (h : s.data.toList = Cs.sg7 b ++ rest) (w : World) :
    Calls Try.prog 20 #[.string s] w fun e w' => e = .returned (.tuple #[Cs.it false (Cs.bitS b.toNat), .int .i64 ((Cs.sg7 b).length : Nat), .int .i64 0]) ∧ Below w.heap.size w w' := by
  obtain ⟨F, hF⟩ : ∃ F, Cs.bitS b.toNat = F := ⟨_, rfl⟩
  rw [hF]
  by_cases hsp : b = 42 ∨ b = 63 ∨ b = 91 ∨ b = 93 ∨ b = 37
  · have e : Cs.sg7 b = [37, b] := by unfold Cs.sg7; rw [if_pos hsp]
    rw [e] at h ⊢
    obtain ⟨l0, e0⟩ := at_of (i := 0) h rfl
    obtain ⟨l1, e1⟩ := at_of (i := 1) h rfl
    have c0' : (s[0].toNat : Int) = 37 := by rw [e0]; rfl
    have n1 : ((s.size : Int) == 1) = false := by rw [beq_eq_false_iff_ne]; omega
    obtain ⟨u, hu⟩ : ∃ u, s.extract 1 2 = u := ⟨_, rfl⟩
    have HU : Hid (Cs.ofL u.data.toList = F ∧ u.size ≤ 1000000) := Lib.hid (by
      have e2 : u.data.toList = [b] := by
        rw [← hu, ByteArray.data_extract, Array.toList_extract, List.extract_eq_take_drop, h]; rfl
      exact ⟨by rw [e2, ofL_one, hF], by rw [size_of e2]; simp⟩)
    clear e0 e1 h hF e hsp
    have hc : Hid (IB (w.alloc (.cells #[.bool false, .int .u64 0, .int .u64 0, .int .u64 0, .int .u64 0] 40)) w.heap.size false 0 ∧ Below w.heap.size w (w.alloc (.cells #[.bool false, .int .u64 0, .int .u64 0, .int .u64 0, .int .u64 0] 40))) := Lib.hid ⟨IB.zero w, (Below.refl _ _).alloc (Nat.le_refl _) _⟩
    go_enter Try.func20, Try.ntmps20
    go_upto_region 1 with fail
    revert hc
    generalize w.alloc (.cells #[.bool false, .int .u64 0, .int .u64 0, .int .u64 0, .int .u64 0] 40) = W
    intro hc
    have db := Blk.cell hc.out.1 (i := 0) rfl
    have d0 := Blk.cell hc.out.1 (i := 1) rfl
    have d1 := Blk.cell hc.out.1 (i := 2) rfl
    have d2 := Blk.cell hc.out.1 (i := 3) rfl
    have d3 := Blk.cell hc.out.1 (i := 4) rfl
    have df0 := Blk.free hc.out.1 0
    have df1 := Blk.free hc.out.1 1
    have df2 := Blk.free hc.out.1 2
    have df3 := Blk.free hc.out.1 3
    have df4 := Blk.free hc.out.1 4
    go_wp2_with (go_at_call 33; refine (cs_of u HU.out.2 _).mono ?_; rintro e W2 ⟨rfl, hb2⟩; rw [HU.out.1]; unfold Cs.sv; have HC : Hid (IB W2 w.heap.size false 0 ∧ Below w.heap.size w W2) := Lib.hid ⟨Blk.below hc.out.1 hb2 (Blk.lt hc.out.1), hc.out.2.trans (hb2.mono hc.out.2.size)⟩; clear hb2 db d0 d1 d2 d3 df0 df1 df2 df3 df4 ; have db := Blk.cell HC.out.1 (i := 0) rfl; have d0 := Blk.cell HC.out.1 (i := 1) rfl; have d1 := Blk.cell HC.out.1 (i := 2) rfl; have d2 := Blk.cell HC.out.1 (i := 3) rfl; have d3 := Blk.cell HC.out.1 (i := 4) rfl; have df0 := Blk.free HC.out.1 0; have df1 := Blk.free HC.out.1 1; have df2 := Blk.free HC.out.1 2; have df3 := Blk.free HC.out.1 3; have df4 := Blk.free HC.out.1 4)
    have hr := Lib.hid (HC.out.1.res HC.out.2 (Nat.le_refl _) false F)
    clear db d0 d1 d2 d3 df0 df1 df2 df3 df4 HC
    revert hr
    generalize ((((W2.setCell ⟨w.heap.size, 0, none⟩ (.bool false)).setCell ⟨w.heap.size, 1, none⟩ (.int .u64 (Cs.wd F 0))).setCell ⟨w.heap.size, 2, none⟩ (.int .u64 (Cs.wd F 1))).setCell ⟨w.heap.size, 3, none⟩ (.int .u64 (Cs.wd F 2))).setCell ⟨w.heap.size, 4, none⟩ (.int .u64 (Cs.wd F 3)) = W9
    intro hr
    have cb := Blk.cell hr.out.1 (i := 0) rfl
    have c0 := Blk.cell hr.out.1 (i := 1) rfl
    have c1 := Blk.cell hr.out.1 (i := 2) rfl
    have c2 := Blk.cell hr.out.1 (i := 3) rfl
    have c3 := Blk.cell hr.out.1 (i := 4) rfl
    refine bodyPost_ret (v := .tuple #[.agg #[.bool false, .int .u64 (Cs.wd F 0), .int .u64 (Cs.wd F 1), .int .u64 (Cs.wd F 2), .int .u64 (Cs.wd F 3)], .int .i64 2, .int .i64 0]) (by simp [results, Try.results20, go_sem, cb, c0, c1, c2, c3]) rfl ?_
    exact ⟨rfl, hr.out.2⟩
  · have e : Cs.sg7 b = [b] := by unfold Cs.sg7; rw [if_neg hsp]
    rw [e] at h ⊢
    obtain ⟨l0, e0⟩ := at_of (i := 0) h rfl
    have k0 : ((s[0].toNat : Int) == 42) = false := by rw [e0, beq_eq_false_iff_ne]; exact fun e => hsp (by simp [u8_eq (c := b) (d := 42) e])
    have k1 : ((s[0].toNat : Int) == 63) = false := by rw [e0, beq_eq_false_iff_ne]; exact fun e => hsp (by simp [u8_eq (c := b) (d := 63) e])
    have k2 : ((s[0].toNat : Int) == 91) = false := by rw [e0, beq_eq_false_iff_ne]; exact fun e => hsp (by simp [u8_eq (c := b) (d := 91) e])
    have k3 : ((s[0].toNat : Int) == 93) = false := by rw [e0, beq_eq_false_iff_ne]; exact fun e => hsp (by simp [u8_eq (c := b) (d := 93) e])
    have k4 : ((s[0].toNat : Int) == 37) = false := by rw [e0, beq_eq_false_iff_ne]; exact fun e => hsp (by simp [u8_eq (c := b) (d := 37) e])
    obtain ⟨u, hu⟩ : ∃ u, s.extract 0 1 = u := ⟨_, rfl⟩
    have HU : Hid (Cs.ofL u.data.toList = F ∧ u.size ≤ 1000000) := Lib.hid (by
      have e2 : u.data.toList = [b] := by
        rw [← hu, ByteArray.data_extract, Array.toList_extract, List.extract_eq_take_drop, h]; rfl
      exact ⟨by rw [e2, ofL_one, hF], by rw [size_of e2]; simp⟩)
    clear e0 h hF e hsp
    have hc : Hid (IB (w.alloc (.cells #[.bool false, .int .u64 0, .int .u64 0, .int .u64 0, .int .u64 0] 40)) w.heap.size false 0 ∧ Below w.heap.size w (w.alloc (.cells #[.bool false, .int .u64 0, .int .u64 0, .int .u64 0, .int .u64 0] 40))) := Lib.hid ⟨IB.zero w, (Below.refl _ _).alloc (Nat.le_refl _) _⟩
    go_enter Try.func20, Try.ntmps20
    go_upto_region 1 with fail
    revert hc
    generalize w.alloc (.cells #[.bool false, .int .u64 0, .int .u64 0, .int .u64 0, .int .u64 0] 40) = W
    intro hc
    have db := Blk.cell hc.out.1 (i := 0) rfl
    have d0 := Blk.cell hc.out.1 (i := 1) rfl
    have d1 := Blk.cell hc.out.1 (i := 2) rfl
    have d2 := Blk.cell hc.out.1 (i := 3) rfl
    have d3 := Blk.cell hc.out.1 (i := 4) rfl
    have df0 := Blk.free hc.out.1 0
    have df1 := Blk.free hc.out.1 1
    have df2 := Blk.free hc.out.1 2
    have df3 := Blk.free hc.out.1 3
    have df4 := Blk.free hc.out.1 4
    go_wp2_with (go_at_call 33; refine (cs_of u HU.out.2 _).mono ?_; rintro e W2 ⟨rfl, hb2⟩; rw [HU.out.1]; unfold Cs.sv; have HC : Hid (IB W2 w.heap.size false 0 ∧ Below w.heap.size w W2) := Lib.hid ⟨Blk.below hc.out.1 hb2 (Blk.lt hc.out.1), hc.out.2.trans (hb2.mono hc.out.2.size)⟩; clear hb2 db d0 d1 d2 d3 df0 df1 df2 df3 df4 ; have db := Blk.cell HC.out.1 (i := 0) rfl; have d0 := Blk.cell HC.out.1 (i := 1) rfl; have d1 := Blk.cell HC.out.1 (i := 2) rfl; have d2 := Blk.cell HC.out.1 (i := 3) rfl; have d3 := Blk.cell HC.out.1 (i := 4) rfl; have df0 := Blk.free HC.out.1 0; have df1 := Blk.free HC.out.1 1; have df2 := Blk.free HC.out.1 2; have df3 := Blk.free HC.out.1 3; have df4 := Blk.free HC.out.1 4)
    have hr := Lib.hid (HC.out.1.res HC.out.2 (Nat.le_refl _) false F)
    clear db d0 d1 d2 d3 df0 df1 df2 df3 df4 HC
    revert hr
    generalize ((((W2.setCell ⟨w.heap.size, 0, none⟩ (.bool false)).setCell ⟨w.heap.size, 1, none⟩ (.int .u64 (Cs.wd F 0))).setCell ⟨w.heap.size, 2, none⟩ (.int .u64 (Cs.wd F 1))).setCell ⟨w.heap.size, 3, none⟩ (.int .u64 (Cs.wd F 2))).setCell ⟨w.heap.size, 4, none⟩ (.int .u64 (Cs.wd F 3)) = W9
    intro hr
    have cb := Blk.cell hr.out.1 (i := 0) rfl
    have c0 := Blk.cell hr.out.1 (i := 1) rfl
    have c1 := Blk.cell hr.out.1 (i := 2) rfl
    have c2 := Blk.cell hr.out.1 (i := 3) rfl
    have c3 := Blk.cell hr.out.1 (i := 4) rfl
    refine bodyPost_ret (v := .tuple #[.agg #[.bool false, .int .u64 (Cs.wd F 0), .int .u64 (Cs.wd F 1), .int .u64 (Cs.wd F 2), .int .u64 (Cs.wd F 3)], .int .i64 1, .int .i64 0]) (by simp [results, Try.results20, go_sem, cb, c0, c1, c2, c3]) rfl ?_
    exact ⟨rfl, hr.out.2⟩
set_option maxRecDepth 20000 in
theorem gl_read_set (s : ByteArray) (X : BitVec 256) (rest : List UInt8) (hs : s.size ≤ 1000000) (h : s.data.toList = Cs.prt X ++ rest) (w : World) :
    Calls Try.prog 20 #[.string s] w fun e w' => e = .returned (.tuple #[Cs.it false X, .int .i64 ((Cs.prt X).length : Nat), .int .i64 0]) ∧ Below w.heap.size w w' := by
  obtain ⟨p, hp⟩ := text_mk (Cs.prt X)
  obtain ⟨q, hq⟩ := text_mk rest
  obtain ⟨n, hn⟩ : ∃ n, p.size = n := ⟨_, rfl⟩
  have HP := Lib.hid (And.intro hp (And.intro (show p ++ q = s from text_ext (by rw [ByteArray.data_append, Array.toList_append, hp, hq, h])) hn))
  rw [← size_of hp, hn]
  obtain ⟨r, hr⟩ := prt_head X
  obtain ⟨l0, e0⟩ := at_of (i := 0) h (by rw [hr]; rfl)
  have c0' : (s[0].toNat : Int) = 91 := by rw [e0]; rfl
  have HS := Lib.hid hs
  clear e0 hr h hp hq hn
  have hc : Hid (IB (w.alloc (.cells #[.bool false, .int .u64 0, .int .u64 0, .int .u64 0, .int .u64 0] 40)) w.heap.size false 0 ∧ Below w.heap.size w (w.alloc (.cells #[.bool false, .int .u64 0, .int .u64 0, .int .u64 0, .int .u64 0] 40))) := Lib.hid ⟨IB.zero w, (Below.refl _ _).alloc (Nat.le_refl _) _⟩
  go_enter Try.func20, Try.ntmps20
  go_upto_region 1 with fail
  revert hc
  generalize w.alloc (.cells #[.bool false, .int .u64 0, .int .u64 0, .int .u64 0, .int .u64 0] 40) = W
  intro hc
  have db := Blk.cell hc.out.1 (i := 0) rfl
  have d0 := Blk.cell hc.out.1 (i := 1) rfl
  have d1 := Blk.cell hc.out.1 (i := 2) rfl
  have d2 := Blk.cell hc.out.1 (i := 3) rfl
  have d3 := Blk.cell hc.out.1 (i := 4) rfl
  have df0 := Blk.free hc.out.1 0
  have df1 := Blk.free hc.out.1 1
  have df2 := Blk.free hc.out.1 2
  have df3 := Blk.free hc.out.1 3
  have df4 := Blk.free hc.out.1 4
  go_upto_region 10 with (go_at_call 32; refine (read_back X p s q HP.out.1 HP.out.2.1 HS.out _).mono ?_; rintro e W2 ⟨rfl, hb2⟩; rw [HP.out.2.2]; unfold Cs.sv; have HC : Hid (SB (W2.alloc (.cells #[.int .u64 (Cs.wd X 0), .int .u64 (Cs.wd X 1), .int .u64 (Cs.wd X 2), .int .u64 (Cs.wd X 3)] 38)) W2.heap.size X ∧ IB (W2.alloc (.cells #[.int .u64 (Cs.wd X 0), .int .u64 (Cs.wd X 1), .int .u64 (Cs.wd X 2), .int .u64 (Cs.wd X 3)] 38)) w.heap.size false 0 ∧ Below w.heap.size w (W2.alloc (.cells #[.int .u64 (Cs.wd X 0), .int .u64 (Cs.wd X 1), .int .u64 (Cs.wd X 2), .int .u64 (Cs.wd X 3)] 38))) := Lib.hid ⟨SB.new W2 X, Blk.alloc (Blk.below hc.out.1 hb2 (Blk.lt hc.out.1)) _, (hc.out.2.trans (hb2.mono hc.out.2.size)).alloc (by have := hc.out.2.size; have := hb2.size; omega) _⟩; clear hb2 db d0 d1 d2 d3 df0 df1 df2 df3 df4 )
  revert HC
  generalize W2.alloc (.cells #[.int .u64 (Cs.wd X 0), .int .u64 (Cs.wd X 1), .int .u64 (Cs.wd X 2), .int .u64 (Cs.wd X 3)] 38) = V
  generalize W2.heap.size = D
  intro HC
  have x0 := HC.out.1.at (i := 0) (by decide)
  have x1 := HC.out.1.at (i := 1) (by decide)
  have x2 := HC.out.1.at (i := 2) (by decide)
  have x3 := HC.out.1.at (i := 3) (by decide)
  have db := Blk.cell HC.out.2.1 (i := 0) rfl
  have d0 := Blk.cell HC.out.2.1 (i := 1) rfl
  have d1 := Blk.cell HC.out.2.1 (i := 2) rfl
  have d2 := Blk.cell HC.out.2.1 (i := 3) rfl
  have d3 := Blk.cell HC.out.2.1 (i := 4) rfl
  have df0 := Blk.free HC.out.2.1 0
  have df1 := Blk.free HC.out.2.1 1
  have df2 := Blk.free HC.out.2.1 2
  have df3 := Blk.free HC.out.2.1 3
  have df4 := Blk.free HC.out.2.1 4
  go_wp2
  have hr := Lib.hid (HC.out.2.1.res HC.out.2.2 (Nat.le_refl _) false X)
  clear x0 x1 x2 x3 db d0 d1 d2 d3 df0 df1 df2 df3 df4 HC
  revert hr
  generalize ((((V.setCell ⟨w.heap.size, 0, none⟩ (.bool false)).setCell ⟨w.heap.size, 1, none⟩ (.int .u64 (Cs.wd X 0))).setCell ⟨w.heap.size, 2, none⟩ (.int .u64 (Cs.wd X 1))).setCell ⟨w.heap.size, 3, none⟩ (.int .u64 (Cs.wd X 2))).setCell ⟨w.heap.size, 4, none⟩ (.int .u64 (Cs.wd X 3)) = W9
  intro hr
  have cb := Blk.cell hr.out.1 (i := 0) rfl
  have c0 := Blk.cell hr.out.1 (i := 1) rfl
  have c1 := Blk.cell hr.out.1 (i := 2) rfl
  have c2 := Blk.cell hr.out.1 (i := 3) rfl
  have c3 := Blk.cell hr.out.1 (i := 4) rfl
  refine bodyPost_ret (v := .tuple #[.agg #[.bool false, .int .u64 (Cs.wd X 0), .int .u64 (Cs.wd X 1), .int .u64 (Cs.wd X 2), .int .u64 (Cs.wd X 3)], .int .i64 n, .int .i64 0]) (by simp [results, Try.results20, go_sem, cb, c0, c1, c2, c3]) rfl ?_
  exact ⟨rfl, hr.out.2⟩
/-- An item's text. -/
def Cs.itx (r : Bool) (X : BitVec 256) : List UInt8 := if r then [42] else if X = Cs.all then [63] else match Cs.memT X 256 with | [c] => Cs.sg7 c | _ => Cs.prt X
theorem mem_one (X : BitVec 256) (c : UInt8) (h : Cs.memT X 256 = [c]) : Cs.bitS c.toNat = X := by
  refine Cs.ext_get fun i hi => ?_
  rw [← Cs.mem_any X i hi, h, Cs.bitS_get]
  have := c.toNat_lt
  by_cases e : c.toNat = i <;> simp [e, hi]
/-- An item, whichever may be. -/
theorem gl_read (s : ByteArray) (r : Bool) (X : BitVec 256) (rest : List UInt8) (hs : s.size ≤ 1000000) (h : s.data.toList = Cs.itx r X ++ rest) (hg : r = true → X = 0) (w : World) :
    Calls Try.prog 20 #[.string s] w fun e w' => e = .returned (.tuple #[Cs.it r X, .int .i64 ((Cs.itx r X).length : Nat), .int .i64 0]) ∧ Below w.heap.size w w' := by
  cases r with
  | true =>
    obtain rfl := hg rfl
    exact gl_read_run s rest hs h w
  | false =>
    by_cases ha : X = Cs.all
    · subst ha
      have e : Cs.itx false Cs.all = [63] := by unfold Cs.itx; rw [if_neg (by simp), if_pos rfl]
      rw [e] at h ⊢
      exact gl_read_any s rest hs h w
    · by_cases hm : ∃ c, Cs.memT X 256 = [c]
      · obtain ⟨c, hc⟩ := hm
        have e : Cs.itx false X = Cs.sg7 c := by unfold Cs.itx; rw [if_neg (by simp), if_neg ha, hc]
        rw [e] at h ⊢
        have k := gl_read_one s c rest hs h w
        rwa [mem_one X c hc] at k
      · have e : Cs.itx false X = Cs.prt X := by
          unfold Cs.itx
          rw [if_neg (by simp), if_neg ha]
          split
          · rename_i c hc; exact absurd ⟨c, hc⟩ hm
          · rfl
        rw [e] at h ⊢
        exact gl_read_set s X rest hs h w
theorem itx_le (r : Bool) (X : BitVec 256) : 1 ≤ (Cs.itx r X).length ∧ (Cs.itx r X).length ≤ 1283 := by
  unfold Cs.itx
  split
  · simp
  · split
    · simp
    · split
      · rename_i c _
        have := sg7_len c
        omega
      · have := prt_le X
        obtain ⟨q, hq⟩ := prt_head X
        rw [hq] at this ⊢
        simp at this ⊢; omega
end Go.Proofs.Ytkihlnomchhiiaa
