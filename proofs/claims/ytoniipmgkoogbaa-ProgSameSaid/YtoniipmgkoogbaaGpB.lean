/- Several texts in one. -/
import Derived.Test.YtoniipmgkoogbaaGpA
/- Any text as a pattern: an item. -/
namespace Go.Proofs.Ytoniipmgkoogbaa
open Go.ChangeShapes Go.WideShapes Go.ChangeAt Go.RowKit
set_option linter.unusedSimpArgs false
set_option linter.unusedVariables false

def Cs.rdI2 : List UInt8 → (Bool × BitVec 256) × Nat × Nat
  | [] => ((false, 0), 1, 3)
  | c :: _ => ((false, Cs.bitS c.toNat), 2, 0)
/-- The item with which bytes begin: it, how many bytes it takes, the error. -/
def Cs.rdI : List UInt8 → (Bool × BitVec 256) × Nat × Nat
  | [] => ((false, 0), 0, 0)
  | b :: r => if b = 42 then ((true, 0), 1, 0) else if b = 63 then ((false, Cs.all), 1, 0) else if b = 93 then ((false, 0), 0, 2)
    else if b = 91 then ((false, (Cs.rdC (91 :: r)).1), (Cs.rdC (91 :: r)).2.1, (Cs.rdC (91 :: r)).2.2) else if b = 37 then Cs.rdI2 r else ((false, Cs.bitS b.toNat), 1, 0)
theorem rdI_cons (b : UInt8) (r : List UInt8) : Cs.rdI (b :: r) = if b = 42 then ((true, 0), 1, 0) else if b = 63 then ((false, Cs.all), 1, 0) else if b = 93 then ((false, 0), 0, 2)
    else if b = 91 then ((false, (Cs.rdC (91 :: r)).1), (Cs.rdC (91 :: r)).2.1, (Cs.rdC (91 :: r)).2.2) else if b = 37 then Cs.rdI2 r else ((false, Cs.bitS b.toNat), 1, 0) := rfl
set_option maxRecDepth 20000 in
set_option maxHeartbeats 4000000 in
theorem gl_rdI (s : ByteArray) (b : UInt8) (r : List UInt8) (hs : s.size ≤ 1000000) (h : s.data.toList = b :: r) (x : Bool) (X : BitVec 256) (n e : Nat) (hr : Cs.rdI (b :: r) = ((x, X), n, e)) (w : World) :
    Calls Try.prog 35 #[.string s] w fun q w' => q = .returned (.tuple #[Cs.it x X, .int .i64 n, .int .i64 e]) ∧ Below w.heap.size w w' := by
  rw [rdI_cons] at hr
  by_cases h42 : b = 42
  · subst h42
    rw [if_pos rfl] at hr
    simp only [Prod.mk.injEq] at hr
    obtain ⟨⟨rfl, rfl⟩, rfl, rfl⟩ := hr
    exact gl_read_run s r hs h w
  rw [if_neg h42] at hr
  by_cases h63 : b = 63
  · subst h63
    rw [if_pos rfl] at hr
    simp only [Prod.mk.injEq] at hr
    obtain ⟨⟨rfl, rfl⟩, rfl, rfl⟩ := hr
    exact gl_read_any s r hs h w
  rw [if_neg h63] at hr
  obtain ⟨l0, e0⟩ := at_of (i := 0) h rfl
  by_cases h93 : b = 93
  · subst h93
    rw [if_pos rfl] at hr
    simp only [Prod.mk.injEq] at hr
    obtain ⟨⟨rfl, rfl⟩, rfl, rfl⟩ := hr
    have c0' : (s[0].toNat : Int) = 93 := by rw [e0]; rfl
    clear e0 h h42 h63
    have hc : Hid (IB (w.alloc (.cells #[.bool false, .int .u64 0, .int .u64 0, .int .u64 0, .int .u64 0] 69)) w.heap.size false 0 ∧ Below w.heap.size w (w.alloc (.cells #[.bool false, .int .u64 0, .int .u64 0, .int .u64 0, .int .u64 0] 69))) := Lib.hid ⟨IB.zero w, (Below.refl _ _).alloc (Nat.le_refl _) _⟩
    go_enter Try.func35, Try.ntmps35
    go_upto_region 1 with fail
    revert hc
    generalize w.alloc (.cells #[.bool false, .int .u64 0, .int .u64 0, .int .u64 0, .int .u64 0] 69) = W
    intro hc
    have db := Blk.cell hc.out.1 (i := 0) rfl
    have d0 := Blk.cell hc.out.1 (i := 1) rfl
    have d1 := Blk.cell hc.out.1 (i := 2) rfl
    have d2 := Blk.cell hc.out.1 (i := 3) rfl
    have d3 := Blk.cell hc.out.1 (i := 4) rfl
    have df0 := Blk.free hc.out.1 0
    have df1 := Blk.free hc.out.1 1
    have df2 := Blk.free hc.out.1 2
    have df3 := Blk.free hc.out.1 3
    have df4 := Blk.free hc.out.1 4
    go_wp2
    have hr := Lib.hid (show IB (((((W.setCell ⟨w.heap.size, 0, none⟩ (.bool false)).setCell ⟨w.heap.size, 1, none⟩ (.int .u64 0)).setCell ⟨w.heap.size, 2, none⟩ (.int .u64 0)).setCell ⟨w.heap.size, 3, none⟩ (.int .u64 0)).setCell ⟨w.heap.size, 4, none⟩ (.int .u64 0)) w.heap.size false 0 ∧ Below w.heap.size w (((((W.setCell ⟨w.heap.size, 0, none⟩ (.bool false)).setCell ⟨w.heap.size, 1, none⟩ (.int .u64 0)).setCell ⟨w.heap.size, 2, none⟩ (.int .u64 0)).setCell ⟨w.heap.size, 3, none⟩ (.int .u64 0)).setCell ⟨w.heap.size, 4, none⟩ (.int .u64 0)) from hc.out.1.res hc.out.2 (Nat.le_refl _) false 0)
    clear db d0 d1 d2 d3 df0 df1 df2 df3 df4 hc
    revert hr
    generalize ((((W.setCell ⟨w.heap.size, 0, none⟩ (.bool false)).setCell ⟨w.heap.size, 1, none⟩ (.int .u64 0)).setCell ⟨w.heap.size, 2, none⟩ (.int .u64 0)).setCell ⟨w.heap.size, 3, none⟩ (.int .u64 0)).setCell ⟨w.heap.size, 4, none⟩ (.int .u64 0) = W9
    intro hr
    have cb := Blk.cell hr.out.1 (i := 0) rfl
    have c0 := Blk.cell hr.out.1 (i := 1) rfl
    have c1 := Blk.cell hr.out.1 (i := 2) rfl
    have c2 := Blk.cell hr.out.1 (i := 3) rfl
    have c3 := Blk.cell hr.out.1 (i := 4) rfl
    refine bodyPost_ret (v := .tuple #[.agg #[.bool false, .int .u64 (Cs.wd 0 0), .int .u64 (Cs.wd 0 1), .int .u64 (Cs.wd 0 2), .int .u64 (Cs.wd 0 3)], .int .i64 0, .int .i64 2]) (by simp [results, Try.results35, go_sem, cb, c0, c1, c2, c3]) rfl ?_
    exact ⟨rfl, hr.out.2⟩
  rw [if_neg h93] at hr
  by_cases h91 : b = 91
  · subst h91
    rw [if_pos rfl] at hr
    obtain ⟨Y, m, q, hT⟩ : ∃ a n e, Cs.rdC (91 :: r) = (a, n, e) := ⟨_, _, _, rfl⟩
    rw [hT] at hr
    simp only [Prod.mk.injEq] at hr
    obtain ⟨⟨rfl, rfl⟩, rfl, rfl⟩ := hr
    have c0' : (s[0].toNat : Int) = 91 := by rw [e0]; rfl
    have HS := Lib.hid (And.intro hs (And.intro h hT))
    clear e0 h hT h42 h63 h93
    have hc : Hid (IB (w.alloc (.cells #[.bool false, .int .u64 0, .int .u64 0, .int .u64 0, .int .u64 0] 69)) w.heap.size false 0 ∧ Below w.heap.size w (w.alloc (.cells #[.bool false, .int .u64 0, .int .u64 0, .int .u64 0, .int .u64 0] 69))) := Lib.hid ⟨IB.zero w, (Below.refl _ _).alloc (Nat.le_refl _) _⟩
    go_enter Try.func35, Try.ntmps35
    go_upto_region 1 with fail
    revert hc
    generalize w.alloc (.cells #[.bool false, .int .u64 0, .int .u64 0, .int .u64 0, .int .u64 0] 69) = W
    intro hc
    have db := Blk.cell hc.out.1 (i := 0) rfl
    have d0 := Blk.cell hc.out.1 (i := 1) rfl
    have d1 := Blk.cell hc.out.1 (i := 2) rfl
    have d2 := Blk.cell hc.out.1 (i := 3) rfl
    have d3 := Blk.cell hc.out.1 (i := 4) rfl
    have df0 := Blk.free hc.out.1 0
    have df1 := Blk.free hc.out.1 1
    have df2 := Blk.free hc.out.1 2
    have df3 := Blk.free hc.out.1 3
    have df4 := Blk.free hc.out.1 4
    go_upto_region 10 with (go_at_call 40; refine (cs_rdC s (91 :: r) HS.out.1 HS.out.2.1 Y m q HS.out.2.2 _).mono ?_; rintro e W2 ⟨rfl, hb2⟩; unfold Cs.sv; have HC : Hid (SB (W2.alloc (.cells #[.int .u64 (Cs.wd Y 0), .int .u64 (Cs.wd Y 1), .int .u64 (Cs.wd Y 2), .int .u64 (Cs.wd Y 3)] 67)) W2.heap.size Y ∧ IB (W2.alloc (.cells #[.int .u64 (Cs.wd Y 0), .int .u64 (Cs.wd Y 1), .int .u64 (Cs.wd Y 2), .int .u64 (Cs.wd Y 3)] 67)) w.heap.size false 0 ∧ Below w.heap.size w (W2.alloc (.cells #[.int .u64 (Cs.wd Y 0), .int .u64 (Cs.wd Y 1), .int .u64 (Cs.wd Y 2), .int .u64 (Cs.wd Y 3)] 67))) := Lib.hid ⟨SB.new W2 Y, Blk.alloc (Blk.below hc.out.1 hb2 (Blk.lt hc.out.1)) _, (hc.out.2.trans (hb2.mono hc.out.2.size)).alloc (by have := hc.out.2.size; have := hb2.size; omega) _⟩; clear hb2 db d0 d1 d2 d3 df0 df1 df2 df3 df4 )
    revert HC
    generalize W2.alloc (.cells #[.int .u64 (Cs.wd Y 0), .int .u64 (Cs.wd Y 1), .int .u64 (Cs.wd Y 2), .int .u64 (Cs.wd Y 3)] 67) = V
    generalize W2.heap.size = D
    intro HC
    have x0 := HC.out.1.at (i := 0) (by decide)
    have x1 := HC.out.1.at (i := 1) (by decide)
    have x2 := HC.out.1.at (i := 2) (by decide)
    have x3 := HC.out.1.at (i := 3) (by decide)
    have db := Blk.cell HC.out.2.1 (i := 0) rfl
    have d0 := Blk.cell HC.out.2.1 (i := 1) rfl
    have d1 := Blk.cell HC.out.2.1 (i := 2) rfl
    have d2 := Blk.cell HC.out.2.1 (i := 3) rfl
    have d3 := Blk.cell HC.out.2.1 (i := 4) rfl
    have df0 := Blk.free HC.out.2.1 0
    have df1 := Blk.free HC.out.2.1 1
    have df2 := Blk.free HC.out.2.1 2
    have df3 := Blk.free HC.out.2.1 3
    have df4 := Blk.free HC.out.2.1 4
    go_wp2
    have hr := Lib.hid (HC.out.2.1.res HC.out.2.2 (Nat.le_refl _) false Y)
    clear x0 x1 x2 x3 db d0 d1 d2 d3 df0 df1 df2 df3 df4 HC
    revert hr
    generalize ((((V.setCell ⟨w.heap.size, 0, none⟩ (.bool false)).setCell ⟨w.heap.size, 1, none⟩ (.int .u64 (Cs.wd Y 0))).setCell ⟨w.heap.size, 2, none⟩ (.int .u64 (Cs.wd Y 1))).setCell ⟨w.heap.size, 3, none⟩ (.int .u64 (Cs.wd Y 2))).setCell ⟨w.heap.size, 4, none⟩ (.int .u64 (Cs.wd Y 3)) = W9
    intro hr
    have cb := Blk.cell hr.out.1 (i := 0) rfl
    have c0 := Blk.cell hr.out.1 (i := 1) rfl
    have c1 := Blk.cell hr.out.1 (i := 2) rfl
    have c2 := Blk.cell hr.out.1 (i := 3) rfl
    have c3 := Blk.cell hr.out.1 (i := 4) rfl
    refine bodyPost_ret (v := .tuple #[.agg #[.bool false, .int .u64 (Cs.wd Y 0), .int .u64 (Cs.wd Y 1), .int .u64 (Cs.wd Y 2), .int .u64 (Cs.wd Y 3)], .int .i64 m, .int .i64 q]) (by simp [results, Try.results35, go_sem, cb, c0, c1, c2, c3]) rfl ?_
    exact ⟨rfl, hr.out.2⟩
  rw [if_neg h91] at hr
  by_cases h37 : b = 37
  · subst h37
    rw [if_pos rfl] at hr
    have c0' : (s[0].toNat : Int) = 37 := by rw [e0]; rfl
    match r, h, hr with
    | [], h, hr =>
      have n1 : s.size = 1 := size_of h
      simp only [Cs.rdI2, Prod.mk.injEq] at hr
      obtain ⟨⟨rfl, rfl⟩, rfl, rfl⟩ := hr
      clear e0 h h42 h63 h93 h91
      have hc : Hid (IB (w.alloc (.cells #[.bool false, .int .u64 0, .int .u64 0, .int .u64 0, .int .u64 0] 69)) w.heap.size false 0 ∧ Below w.heap.size w (w.alloc (.cells #[.bool false, .int .u64 0, .int .u64 0, .int .u64 0, .int .u64 0] 69))) := Lib.hid ⟨IB.zero w, (Below.refl _ _).alloc (Nat.le_refl _) _⟩
      go_enter Try.func35, Try.ntmps35
      go_upto_region 1 with fail
      revert hc
      generalize w.alloc (.cells #[.bool false, .int .u64 0, .int .u64 0, .int .u64 0, .int .u64 0] 69) = W
      intro hc
      have db := Blk.cell hc.out.1 (i := 0) rfl
      have d0 := Blk.cell hc.out.1 (i := 1) rfl
      have d1 := Blk.cell hc.out.1 (i := 2) rfl
      have d2 := Blk.cell hc.out.1 (i := 3) rfl
      have d3 := Blk.cell hc.out.1 (i := 4) rfl
      have df0 := Blk.free hc.out.1 0
      have df1 := Blk.free hc.out.1 1
      have df2 := Blk.free hc.out.1 2
      have df3 := Blk.free hc.out.1 3
      have df4 := Blk.free hc.out.1 4
      go_wp2
      have hr := Lib.hid (show IB (((((W.setCell ⟨w.heap.size, 0, none⟩ (.bool false)).setCell ⟨w.heap.size, 1, none⟩ (.int .u64 0)).setCell ⟨w.heap.size, 2, none⟩ (.int .u64 0)).setCell ⟨w.heap.size, 3, none⟩ (.int .u64 0)).setCell ⟨w.heap.size, 4, none⟩ (.int .u64 0)) w.heap.size false 0 ∧ Below w.heap.size w (((((W.setCell ⟨w.heap.size, 0, none⟩ (.bool false)).setCell ⟨w.heap.size, 1, none⟩ (.int .u64 0)).setCell ⟨w.heap.size, 2, none⟩ (.int .u64 0)).setCell ⟨w.heap.size, 3, none⟩ (.int .u64 0)).setCell ⟨w.heap.size, 4, none⟩ (.int .u64 0)) from hc.out.1.res hc.out.2 (Nat.le_refl _) false 0)
      clear db d0 d1 d2 d3 df0 df1 df2 df3 df4 hc
      revert hr
      generalize ((((W.setCell ⟨w.heap.size, 0, none⟩ (.bool false)).setCell ⟨w.heap.size, 1, none⟩ (.int .u64 0)).setCell ⟨w.heap.size, 2, none⟩ (.int .u64 0)).setCell ⟨w.heap.size, 3, none⟩ (.int .u64 0)).setCell ⟨w.heap.size, 4, none⟩ (.int .u64 0) = W9
      intro hr
      have cb := Blk.cell hr.out.1 (i := 0) rfl
      have c0 := Blk.cell hr.out.1 (i := 1) rfl
      have c1 := Blk.cell hr.out.1 (i := 2) rfl
      have c2 := Blk.cell hr.out.1 (i := 3) rfl
      have c3 := Blk.cell hr.out.1 (i := 4) rfl
      refine bodyPost_ret (v := .tuple #[.agg #[.bool false, .int .u64 (Cs.wd 0 0), .int .u64 (Cs.wd 0 1), .int .u64 (Cs.wd 0 2), .int .u64 (Cs.wd 0 3)], .int .i64 1, .int .i64 3]) (by simp [results, Try.results35, go_sem, cb, c0, c1, c2, c3]) rfl ?_
      exact ⟨rfl, hr.out.2⟩
    | c :: r2, h, hr =>
      obtain ⟨F, hF⟩ : ∃ F, Cs.bitS c.toNat = F := ⟨_, rfl⟩
      simp only [Cs.rdI2, Prod.mk.injEq] at hr
      obtain ⟨⟨rfl, rfl⟩, rfl, rfl⟩ := hr
      rw [hF]
      obtain ⟨l1, e1⟩ := at_of (i := 1) h rfl
      have n1 : ((s.size : Int) == 1) = false := by rw [beq_eq_false_iff_ne]; omega
      obtain ⟨u, hu⟩ : ∃ u, s.extract 1 2 = u := ⟨_, rfl⟩
      have HU : Hid (Cs.ofL u.data.toList = F ∧ u.size ≤ 1000000) := Lib.hid (by
        have e2 : u.data.toList = [c] := by
          rw [← hu, ByteArray.data_extract, Array.toList_extract, List.extract_eq_take_drop, h]; rfl
        exact ⟨by rw [e2, ofL_one, hF], by rw [size_of e2]; simp⟩)
      clear e0 e1 h hF h42 h63 h93 h91
      have hc : Hid (IB (w.alloc (.cells #[.bool false, .int .u64 0, .int .u64 0, .int .u64 0, .int .u64 0] 69)) w.heap.size false 0 ∧ Below w.heap.size w (w.alloc (.cells #[.bool false, .int .u64 0, .int .u64 0, .int .u64 0, .int .u64 0] 69))) := Lib.hid ⟨IB.zero w, (Below.refl _ _).alloc (Nat.le_refl _) _⟩
      go_enter Try.func35, Try.ntmps35
      go_upto_region 1 with fail
      revert hc
      generalize w.alloc (.cells #[.bool false, .int .u64 0, .int .u64 0, .int .u64 0, .int .u64 0] 69) = W
      intro hc
      have db := Blk.cell hc.out.1 (i := 0) rfl
      have d0 := Blk.cell hc.out.1 (i := 1) rfl
      have d1 := Blk.cell hc.out.1 (i := 2) rfl
      have d2 := Blk.cell hc.out.1 (i := 3) rfl
      have d3 := Blk.cell hc.out.1 (i := 4) rfl
      have df0 := Blk.free hc.out.1 0
      have df1 := Blk.free hc.out.1 1
      have df2 := Blk.free hc.out.1 2
      have df3 := Blk.free hc.out.1 3
      have df4 := Blk.free hc.out.1 4
      go_wp2_with (go_at_call 41; refine (cs_of u HU.out.2 _).mono ?_; rintro e W2 ⟨rfl, hb2⟩; rw [HU.out.1]; unfold Cs.sv; have HC : Hid (IB W2 w.heap.size false 0 ∧ Below w.heap.size w W2) := Lib.hid ⟨Blk.below hc.out.1 hb2 (Blk.lt hc.out.1), hc.out.2.trans (hb2.mono hc.out.2.size)⟩; clear hb2 db d0 d1 d2 d3 df0 df1 df2 df3 df4 ; have db := Blk.cell HC.out.1 (i := 0) rfl; have d0 := Blk.cell HC.out.1 (i := 1) rfl; have d1 := Blk.cell HC.out.1 (i := 2) rfl; have d2 := Blk.cell HC.out.1 (i := 3) rfl; have d3 := Blk.cell HC.out.1 (i := 4) rfl; have df0 := Blk.free HC.out.1 0; have df1 := Blk.free HC.out.1 1; have df2 := Blk.free HC.out.1 2; have df3 := Blk.free HC.out.1 3; have df4 := Blk.free HC.out.1 4)
      have hr := Lib.hid (HC.out.1.res HC.out.2 (Nat.le_refl _) false F)
      clear db d0 d1 d2 d3 df0 df1 df2 df3 df4 HC
      revert hr
      generalize ((((W2.setCell ⟨w.heap.size, 0, none⟩ (.bool false)).setCell ⟨w.heap.size, 1, none⟩ (.int .u64 (Cs.wd F 0))).setCell ⟨w.heap.size, 2, none⟩ (.int .u64 (Cs.wd F 1))).setCell ⟨w.heap.size, 3, none⟩ (.int .u64 (Cs.wd F 2))).setCell ⟨w.heap.size, 4, none⟩ (.int .u64 (Cs.wd F 3)) = W9
      intro hr
      have cb := Blk.cell hr.out.1 (i := 0) rfl
      have c0 := Blk.cell hr.out.1 (i := 1) rfl
      have c1 := Blk.cell hr.out.1 (i := 2) rfl
      have c2 := Blk.cell hr.out.1 (i := 3) rfl
      have c3 := Blk.cell hr.out.1 (i := 4) rfl
      refine bodyPost_ret (v := .tuple #[.agg #[.bool false, .int .u64 (Cs.wd F 0), .int .u64 (Cs.wd F 1), .int .u64 (Cs.wd F 2), .int .u64 (Cs.wd F 3)], .int .i64 2, .int .i64 0]) (by simp [results, Try.results35, go_sem, cb, c0, c1, c2, c3]) rfl ?_
      exact ⟨rfl, hr.out.2⟩
  rw [if_neg h37] at hr
  simp only [Prod.mk.injEq] at hr
  obtain ⟨⟨rfl, rfl⟩, rfl, rfl⟩ := hr
  have e : Cs.sg7 b = [b] := by
    unfold Cs.sg7
    rw [if_neg]
    rintro (h | h | h | h | h)
    · exact h42 h
    · exact h63 h
    · exact h91 h
    · exact h93 h
    · exact h37 h
  have k := gl_read_one s b r hs (by rw [h, e]; rfl) w
  rw [e] at k
  exact k
end Go.Proofs.Ytoniipmgkoogbaa
/- Any text as a pattern. -/
namespace Go.Proofs.Ytoniipmgkoogbaa
open Go.ChangeShapes Go.WideShapes Go.ChangeAt Go.RowKit
set_option linter.unusedSimpArgs false
set_option linter.unusedVariables false

theorem rdC_le (l : List UInt8) : (Cs.rdC l).2.1 ≤ l.length ∧ ((Cs.rdC l).2.2 = 0 → 1 ≤ (Cs.rdC l).2.1) := by
  match l with
  | [] => exact ⟨Nat.le_refl _, fun h => by simp [Cs.rdC] at h⟩
  | b :: r =>
    rw [rdC_cons]
    by_cases h1 : b ≠ 91
    · rw [if_pos h1]; exact ⟨Nat.zero_le _, fun h => by simp at h⟩
    · rw [if_neg h1]
      by_cases h2 : r.head? = some 94
      · rw [if_pos h2]
        have a := rdL_le ((r.drop 1).length + 1) (r.drop 1) 0 0 (by omega)
        have hr : 1 ≤ r.length := by
          cases r with
          | nil => simp at h2
          | cons x y => simp
        rw [List.length_drop] at a
        unfold Cs.rdR
        split
        · rename_i hq; exact ⟨by simp only [List.length_cons, List.length_drop]; omega, fun h => absurd h hq⟩
        · exact ⟨by simp only [List.length_cons, List.length_drop]; omega, fun _ => by simp only; omega⟩
      · rw [if_neg h2]
        have a := rdL_le (r.length + 1) r 0 0 (by omega)
        unfold Cs.rdR
        split
        · rename_i hq; exact ⟨by simp only [List.length_cons]; omega, fun h => absurd h hq⟩
        · exact ⟨by simp only [List.length_cons]; omega, fun _ => by simp only; omega⟩
theorem rdI_le (b : UInt8) (r : List UInt8) : (Cs.rdI (b :: r)).2.1 ≤ r.length + 1 ∧ ((Cs.rdI (b :: r)).2.2 = 0 → 1 ≤ (Cs.rdI (b :: r)).2.1) ∧ ((Cs.rdI (b :: r)).1.1 = true → (Cs.rdI (b :: r)).1.2 = 0) := by
  rw [rdI_cons]
  split
  · exact ⟨by simp only; omega, fun _ => Nat.le_refl _, fun _ => rfl⟩
  · split
    · exact ⟨by simp only; omega, fun _ => Nat.le_refl _, fun h => by cases h⟩
    · split
      · exact ⟨Nat.zero_le _, fun h => by simp at h, fun h => by cases h⟩
      · split
        · have a := rdC_le (91 :: r)
          rw [List.length_cons] at a
          exact ⟨a.1, a.2, fun h => by cases h⟩
        · split
          · cases r with
            | nil => exact ⟨Nat.le_refl _, fun h => by simp [Cs.rdI2] at h, fun h => by cases h⟩
            | cons x y => exact ⟨by simp [Cs.rdI2], fun h => by simp [Cs.rdI2], fun h => by cases h⟩
          · exact ⟨by simp only; omega, fun _ => Nat.le_refl _, fun h => by cases h⟩
/-- The pattern of bytes: it, the error's place, the error. -/
def Cs.rdG : Nat → List UInt8 → Nat → List (Bool × BitVec 256) → List (Bool × BitVec 256) × Nat × Nat
  | 0, _, _, L => (L, 0, 0)
  | f + 1, l, k, L => if l.length ≤ k then (L, 0, 0) else if L.length = 60 then ([], k, 4)
    else if (Cs.rdI (l.drop k)).2.2 ≠ 0 then ([], k + (Cs.rdI (l.drop k)).2.1, (Cs.rdI (l.drop k)).2.2) else Cs.rdG f l (k + (Cs.rdI (l.drop k)).2.1) (L ++ [(Cs.rdI (l.drop k)).1])
theorem rdG_succ (f : Nat) (l : List UInt8) (k : Nat) (L : List (Bool × BitVec 256)) : Cs.rdG (f + 1) l k L = if l.length ≤ k then (L, 0, 0) else if L.length = 60 then ([], k, 4)
    else if (Cs.rdI (l.drop k)).2.2 ≠ 0 then ([], k + (Cs.rdI (l.drop k)).2.1, (Cs.rdI (l.drop k)).2.2) else Cs.rdG f l (k + (Cs.rdI (l.drop k)).2.1) (L ++ [(Cs.rdI (l.drop k)).1]) := rfl
set_option maxRecDepth 20000 in
set_option maxHeartbeats 4000000 in
theorem gl_rdG (s : ByteArray) (l : List UInt8) (hs : s.size ≤ 1000000) (h : s.data.toList = l) (R : List (Bool × BitVec 256)) (p q : Nat) (hr : Cs.rdG (l.length + 1) l 0 [] = (R, p, q)) (w : World) :
    Calls Try.prog 33 #[.string s] w fun e w' => ∃ v, e = .returned (.tuple #[v, .int .i64 p, .int .i64 q]) ∧ w'.ownsRow w.heap.size 69 5 v R.length (its R) ∧ Below w.heap.size w w' := by
  obtain ⟨i0, hi, hz0, hz1, hz2⟩ := info_split infoI
  have HI := Lib.hid hi
  have HI0 := Lib.hid hz0
  have HI1 := Lib.hid hz1
  have HI2 := Lib.hid hz2
  obtain ⟨n, hn⟩ : ∃ n, s.size = n := ⟨_, rfl⟩
  have hll : l.length = n := by rw [← h]; simpa using hn
  rw [hll] at hr
  have HP := Lib.hid (And.intro h (And.intro hr (And.intro hll hn)))
  have hn6 : n ≤ 1000000 := by omega
  clear hi hz0 hz1 hz2 h hr hll hs
  go_enter Try.func33, Try.ntmps33
  go_wp2
  go_loopw [5, 6] (fun v i wr => ∃ (k f : Nat) (done : List (Bool × BitVec 256)), i = .int .i64 k ∧ k ≤ n ∧ n - k ≤ f ∧ done.length ≤ 60 ∧ Hid (Cs.rdG (f + 1) l k done = (R, p, q)) ∧ Hid (wr.ownsRow w.heap.size 69 5 v done.length (its done) ∧ Below w.heap.size w wr)) (fun _ i _ => n - (intOf i).toNat)
  case atStart => exact ⟨0, n, [], rfl, by omega, by omega, by simp, Lib.hid HP.out.2.1, Lib.hid ⟨World.ownsRow_nil _ _ _ _, Below.refl _ _⟩⟩
  case round =>
    obtain ⟨k, f0, done, rfl, hk, hf0, hd60', HR, HB⟩ := hrel
    have j0 : (0 : Int) ≤ (k : Int) := by omega
    have hR := HR.out
    rw [rdG_succ, HP.out.2.2.1] at hR
    by_cases hkn : k < n
    · rw [if_neg (by omega)] at hR
      obtain ⟨d, hd⟩ : ∃ d, done.length = d := ⟨_, rfl⟩
      rw [hd] at hR hd60'
      obtain ⟨a, c, hv⟩ := own_slice HB.out.1
      rw [hd] at hv
      subst hv
      have HL := Lib.hid hd
      by_cases h60 : d = 60
      · rw [if_pos h60] at hR
        have HE : Hid (R = [] ∧ p = k ∧ q = 4) := Lib.hid (by simp only [Prod.mk.injEq] at hR; exact ⟨hR.1.symm, hR.2.1.symm, hR.2.2.symm⟩)
        have hd6 : (d : Int) = 60 := by omega
        clear hR hd h60 hf0
        go_wp2
        go_ret3
        exact ⟨.slice none 0 0, by rw [HE.out.2.1, HE.out.2.2]; rfl, by rw [HE.out.1]; exact World.ownsRow_nil _ _ _ _, HB.out.2⟩
      · rw [if_neg h60] at hR
        have hd6 : ((d : Int) == 60) = false := by rw [beq_eq_false_iff_ne]; omega
        obtain ⟨u, hu⟩ : ∃ u, s.extract k n = u := ⟨_, rfl⟩
        have hlt : k < l.length := by rw [HP.out.2.2.1]; exact hkn
        obtain ⟨b0, r0, hbr⟩ : ∃ b r, l.drop k = b :: r := ⟨_, _, List.drop_eq_getElem_cons hlt⟩
        rw [hbr] at hR
        have hle := rdI_le b0 r0
        have hrl : r0.length + 1 = n - k := by
          have := congrArg List.length hbr
          rw [List.length_drop, HP.out.2.2.1, List.length_cons] at this
          omega
        obtain ⟨⟨r, X⟩, j, e, hT⟩ : ∃ a n e, Cs.rdI (b0 :: r0) = (a, n, e) := ⟨_, _, _, rfl⟩
        rw [hT] at hR hle
        dsimp only at hR hle
        have HU : Hid (u.data.toList = b0 :: r0 ∧ u.size ≤ 1000000 ∧ Cs.rdI (b0 :: r0) = ((r, X), j, e)) := Lib.hid (by
          have e := ext_drop hn hu
          rw [HP.out.1, hbr] at e
          exact ⟨e, by rw [size_of e, List.length_cons]; omega, hT⟩)
        have hkj : k + j ≤ n := by omega
        have w1 : IntKind.i64.wrap ((k : Int) + j) = (k : Int) + j := IntWalk.i64_in _ (by omega)
        by_cases he : e = 0
        · subst he
          rw [if_neg (by simp)] at hR
          have hj1 : 1 ≤ j := hle.2.1 rfl
          obtain ⟨f, rfl⟩ : ∃ f, f0 = f + 1 := ⟨f0 - 1, by omega⟩
          have HR2 := Lib.hid hR
          have hds : (done ++ [(r, X)]).length ≤ 60 := by rw [List.length_append, hd]; simp; omega
          clear hR hd hT hle hrl hbr hlt h60
          go_upto_region 9 with (go_at_call 35; refine (gl_rdI u b0 r0 HU.out.2.1 HU.out.1 r X j 0 HU.out.2.2 _).mono ?_; rintro e W1 ⟨rfl, hb1⟩; unfold Cs.it; have HB1 : Hid (IB (W1.alloc (.cells #[.bool r, .int .u64 (Cs.wd X 0), .int .u64 (Cs.wd X 1), .int .u64 (Cs.wd X 2), .int .u64 (Cs.wd X 3)] 69)) W1.heap.size r X ∧ (W1.alloc (.cells #[.bool r, .int .u64 (Cs.wd X 0), .int .u64 (Cs.wd X 1), .int .u64 (Cs.wd X 2), .int .u64 (Cs.wd X 3)] 69)).ownsRow w.heap.size 69 5 (.slice a d c) d (its done) ∧ Below w.heap.size w (W1.alloc (.cells #[.bool r, .int .u64 (Cs.wd X 0), .int .u64 (Cs.wd X 1), .int .u64 (Cs.wd X 2), .int .u64 (Cs.wd X 3)] 69))) := Lib.hid ⟨IB.new W1 r X, by have := (own_below HB.out.1 hb1).alloc (.cells #[.bool r, .int .u64 (Cs.wd X 0), .int .u64 (Cs.wd X 1), .int .u64 (Cs.wd X 2), .int .u64 (Cs.wd X 3)] 69); rw [HL.out] at this; exact this, (HB.out.2.trans (hb1.mono HB.out.2.size)).alloc (by have := HB.out.2.size; have := hb1.size; omega) _⟩; clear hb1)
          clear HB
          revert HB1
          generalize W1.alloc (.cells #[.bool r, .int .u64 (Cs.wd X 0), .int .u64 (Cs.wd X 1), .int .u64 (Cs.wd X 2), .int .u64 (Cs.wd X 3)] 69) = V
          generalize W1.heap.size = D
          intro HB1
          have yb := Blk.cell HB1.out.1 (i := 0) rfl
          have y0 := Blk.cell HB1.out.1 (i := 1) rfl
          have y1 := Blk.cell HB1.out.1 (i := 2) rfl
          have y2 := Blk.cell HB1.out.1 (i := 3) rfl
          have y3 := Blk.cell HB1.out.1 (i := 4) rfl
          go_wp2_with (at_builtin; refine wpList_append_own _ rfl _ _ 60 rfl w.heap.size 69 i0 (.agg #[.bool false, .int .u64 0, .int .u64 0, .int .u64 0, .int .u64 0]) 5 40 Try.underlying60 HI.out HI0.out HI1.out HI2.out rfl (by decide) _ _ _ rfl (HB1.out.2.1.alloc _) ⟨V.heap.size, 0, none⟩ 1 1 [.bool r, .int .u64 (Cs.wd X 0), .int .u64 (Cs.wd X 1), .int .u64 (Cs.wd X 2), .int .u64 (Cs.wd X 3)] rfl rfl (new_cells _ _ _) (one_item _ _ _ _ _) (by unfold maxLen; omega) (by omega) (by have := HB1.out.2.2.size; simp; omega) ?_)
          intro v' w3 hown hgrow _
          have HN : Hid (w3.ownsRow w.heap.size 69 5 v' (done ++ [(r, X)]).length (its (done ++ [(r, X)])) ∧ Below w.heap.size w w3) := by
            have hs := HB1.out.2.2.size
            refine Lib.hid ⟨?_, (HB1.out.2.2.alloc hs _).grown hgrow (by simp; omega) (fun q hq => (HB1.out.2.1.lt q hq).1)⟩
            rw [its_append, List.length_append, HL.out]; exact hown
          clear hown hgrow
          go_wp2
          refine ⟨?_, ?measure⟩
          case measure => simp [intOf]; omega
          first
            | exact ⟨k + j, f, done ++ [(r, X)], by go_num, by omega, by omega, hds, HR2, HN⟩
            | ((repeat apply Exists.intro); exact ⟨⟨k + j, f, done ++ [(r, X)], by go_num, by omega, by omega, hds, HR2, HN⟩, rfl⟩)
        · rw [if_pos he] at hR
          have HE : Hid (R = [] ∧ p = k + j ∧ q = e) := Lib.hid (by simp only [Prod.mk.injEq] at hR; exact ⟨hR.1.symm, hR.2.1.symm, hR.2.2.symm⟩)
          have ke : ((e : Int) != 0) = true := by rw [bne_iff_ne]; omega
          clear hR hd hT hle hrl hbr hlt h60 he hf0
          go_upto_region 9 with (go_at_call 35; refine (gl_rdI u b0 r0 HU.out.2.1 HU.out.1 r X j e HU.out.2.2 _).mono ?_; rintro e W1 ⟨rfl, hb1⟩; unfold Cs.it; have HB1 : Hid (IB (W1.alloc (.cells #[.bool r, .int .u64 (Cs.wd X 0), .int .u64 (Cs.wd X 1), .int .u64 (Cs.wd X 2), .int .u64 (Cs.wd X 3)] 69)) W1.heap.size r X ∧ (W1.alloc (.cells #[.bool r, .int .u64 (Cs.wd X 0), .int .u64 (Cs.wd X 1), .int .u64 (Cs.wd X 2), .int .u64 (Cs.wd X 3)] 69)).ownsRow w.heap.size 69 5 (.slice a d c) d (its done) ∧ Below w.heap.size w (W1.alloc (.cells #[.bool r, .int .u64 (Cs.wd X 0), .int .u64 (Cs.wd X 1), .int .u64 (Cs.wd X 2), .int .u64 (Cs.wd X 3)] 69))) := Lib.hid ⟨IB.new W1 r X, by have := (own_below HB.out.1 hb1).alloc (.cells #[.bool r, .int .u64 (Cs.wd X 0), .int .u64 (Cs.wd X 1), .int .u64 (Cs.wd X 2), .int .u64 (Cs.wd X 3)] 69); rw [HL.out] at this; exact this, (HB.out.2.trans (hb1.mono HB.out.2.size)).alloc (by have := HB.out.2.size; have := hb1.size; omega) _⟩; clear hb1)
          clear HB
          revert HB1
          generalize W1.alloc (.cells #[.bool r, .int .u64 (Cs.wd X 0), .int .u64 (Cs.wd X 1), .int .u64 (Cs.wd X 2), .int .u64 (Cs.wd X 3)] 69) = V
          generalize W1.heap.size = D
          intro HB1
          go_wp2
          go_ret3
          exact ⟨.slice none 0 0, by rw [HE.out.2.1, HE.out.2.2, Int.natCast_add]; rfl, by rw [HE.out.1]; exact World.ownsRow_nil _ _ _ _, HB1.out.2.2⟩
    · obtain rfl : k = n := by omega
      rw [if_pos (Nat.le_refl _)] at hR
      have HE : Hid (R = done ∧ p = 0 ∧ q = 0) := Lib.hid (by simp only [Prod.mk.injEq] at hR; exact ⟨hR.1.symm, hR.2.1.symm, hR.2.2.symm⟩)
      clear hR hf0
      go_wp2
      go_ret3
      exact ⟨_, by rw [HE.out.2.1, HE.out.2.2]; rfl, by rw [HE.out.1]; exact HB.out.1, HB.out.2⟩
end Go.Proofs.Ytoniipmgkoogbaa
/- Any text as a set, by the document: where it stops. -/
namespace Go.Proofs.Ytoniipmgkoogbaa
open Go.ChangeShapes Go.WideShapes Go.ChangeAt Go.RowKit
set_option linter.unusedSimpArgs false
set_option linter.unusedVariables false

end Go.Proofs.Ytoniipmgkoogbaa
/- Any text as a pattern, by the document (given what its Read does). -/
namespace Go.Proofs.Ytoniipmgkoogbaa
open Go.ChangeShapes Go.WideShapes Go.ChangeAt Go.RowKit
set_option linter.unusedSimpArgs false
set_option linter.unusedVariables false

theorem span_all : Cs.span 0 255 = Cs.all := by decide +kernel
end Go.Proofs.Ytoniipmgkoogbaa
/- The pattern of any text is one. -/
namespace Go.Proofs.Ytoniipmgkoogbaa
open Go.ChangeShapes Go.WideShapes Go.ChangeAt Go.RowKit
set_option linter.unusedSimpArgs false
set_option linter.unusedVariables false

theorem ok_good {L : List (Bool × BitVec 256)} (h : okI L) (hl : L.length ≤ 60) : goodB L = true := by
  unfold goodB
  simp only [Bool.and_eq_true, decide_eq_true_eq, List.all_eq_true]
  refine ⟨hl, fun x hx => ?_⟩
  cases hx1 : x.1 with
  | false => rfl
  | true => simp [h x hx hx1]
theorem rdG_good : ∀ (f : Nat) (l : List UInt8) (k : Nat) (L : List (Bool × BitVec 256)), L.length ≤ 60 → okI L → goodB (Cs.rdG f l k L).1 = true
  | 0, l, k, L, h1, h2 => ok_good h2 h1
  | f + 1, l, k, L, h1, h2 => by
    have hnil : goodB [] = true := rfl
    rw [rdG_succ]
    by_cases hk : l.length ≤ k
    · rw [if_pos hk]; exact ok_good h2 h1
    · rw [if_neg hk]
      by_cases h60 : L.length = 60
      · rw [if_pos h60]; exact hnil
      · rw [if_neg h60]
        by_cases he : (Cs.rdI (l.drop k)).2.2 ≠ 0
        · rw [if_pos he]; exact hnil
        · rw [if_neg he]
          refine rdG_good f l _ _ (by rw [List.length_append]; simp; omega) ?_
          intro x hx hx1
          rcases List.mem_append.1 hx with hx | hx
          · exact h2 x hx hx1
          · simp only [List.mem_singleton] at hx
            subst hx
            obtain ⟨b, r, hbr⟩ : ∃ b r, l.drop k = b :: r := ⟨_, _, List.drop_eq_getElem_cons (by omega)⟩
            rw [hbr] at hx1 ⊢
            exact (rdI_le b r).2.2 hx1
theorem cut_90 (s t : ByteArray) (hs : s.size ≤ maxLen) (ht : cutT s 90 = t) (w : World) :
    Calls Try.prog 20 #[.string s, .int .i64 90] w fun e w' => e = .returned (.string t) ∧ w = w' := cut_any s t 90 (by decide) hs ht w
end Go.Proofs.Ytoniipmgkoogbaa
/- The law of any text as a pattern (given what the document's Read does). -/
namespace Go.Proofs.Ytoniipmgkoogbaa
open Go.ChangeShapes Go.WideShapes Go.ChangeAt Go.RowKit
set_option linter.unusedSimpArgs false
set_option linter.unusedVariables false

end Go.Proofs.Ytoniipmgkoogbaa
/- Sets filled by spans. -/
namespace Go.Proofs.Ytoniipmgkoogbaa
open Go.ChangeShapes Go.WideShapes Go.ChangeAt Go.RowKit
set_option linter.unusedSimpArgs false
set_option linter.unusedVariables false

theorem mkN_span (φ : Nat → Bool) (x y j : Nat) (h : y < j) : Cs.mkN (fun t => φ t || (decide (x ≤ t) && (decide (t < j) && decide (t ≤ y)))) 256 = Cs.mkN φ 256 ||| Cs.span x y := by
  refine Cs.ext_get fun i hi => ?_
  rw [BitVec.getLsbD_or, Cs.mkN_get _ _ _ hi, Cs.mkN_get _ _ _ hi, Cs.span_get _ _ _ hi]
  by_cases hy : i ≤ y
  · have : i < j := by omega
    simp [hi, hy, this]
  · simp [hi, hy]
end Go.Proofs.Ytoniipmgkoogbaa
