/- Contracts of sets of bytes: what a part is read as. -/
import Derived.Test.YtoniipmgkoogbaaCs8
namespace Go.Proofs.Ytoniipmgkoogbaa
open Go.ChangeShapes Go.WideShapes Go.ChangeAt Go.RowKit
set_option linter.unusedSimpArgs false
set_option linter.unusedVariables false

set_option maxRecDepth 20000 in
set_option maxHeartbeats 1000000 in
theorem cs_readPart2 (s : ByteArray) (c d : UInt8) (rest : List UInt8) (hs : s.size ≤ 1000000) (h : s.data.toList = Cs.sgn c ++ (45 :: (Cs.sgn d ++ rest))) (hcd : c.toNat ≤ d.toNat) (w : World) :
    Calls Try.prog 48 #[.string s] w fun e w' => e = .returned (.tuple #[Cs.sv (Cs.span c.toNat d.toNat), .int .i64 ((Cs.sgn c).length + (1 + (Cs.sgn d).length) : Nat), .int .i64 0]) ∧ Below w.heap.size w w' := by
  have HH := Lib.hid h
  obtain ⟨n, hn⟩ : ∃ n, (Cs.sgn c).length = n := ⟨_, rfl⟩
  obtain ⟨m, hm⟩ : ∃ m, (Cs.sgn d).length = m := ⟨_, rfl⟩
  have hn2 := (Cs.sgn_len c).2
  have hm2 := (Cs.sgn_len d).2
  rw [hn] at hn2; rw [hm] at hm2
  have HN := Lib.hid (And.intro hn hm)
  obtain ⟨X, hX⟩ : ∃ X, Cs.span c.toNat d.toNat = X := ⟨_, rfl⟩
  have HX := Lib.hid hX
  rw [hn, hm, hX]
  have hsl : s.size = n + 1 + m + rest.length := by rw [size_of h, List.length_append, List.length_cons, List.length_append, hn, hm]; omega
  obtain ⟨l, hl⟩ : ∃ l, s.size = l := ⟨_, rfl⟩
  rw [hl] at hsl
  obtain ⟨u, hu⟩ : ∃ u, s.extract (n + 1) l = u := ⟨_, rfl⟩
  have HU : Hid (u.data.toList = Cs.sgn d ++ rest ∧ u.size ≤ 1000000) := Lib.hid (by
    have e := ext_drop hl hu
    have e2 : s.data.toList.drop (n + 1) = Cs.sgn d ++ rest := by
      rw [h, show n + 1 = (Cs.sgn c).length + 1 by rw [hn], ← List.drop_drop, List.drop_left]; rfl
    rw [e2] at e
    refine ⟨e, ?_⟩
    rw [size_of e, List.length_append, hm]; omega)
  obtain ⟨ln, en⟩ := at_of (i := n) h (by rw [List.getElem?_append_right (by omega), hn]; simp; rfl)
  have hlt : n < l := by omega
  have n0 : ((n : Int) == (l : Int)) = false := by rw [beq_eq_false_iff_ne]; omega
  have cb : (s[n].toNat : Int) = 45 := by rw [en]; rfl
  have w1 : IntKind.i64.wrap ((n : Int) + 1) = (n : Int) + 1 := IntWalk.i64_in _ (by omega)
  have w2 : IntKind.i64.wrap (1 + (m : Int)) = 1 + (m : Int) := IntWalk.i64_in _ (by omega)
  have w3 : IntKind.i64.wrap ((n : Int) + (1 + (m : Int))) = (n : Int) + (1 + (m : Int)) := IntWalk.i64_in _ (by omega)
  have hcd2 : ¬ ((d.toNat : Int) < c.toNat) := by omega
  have hs2 : l ≤ 1000000 := by omega
  have HS := Lib.hid hs
  clear en hn hm hX h hsl hs
  have hc : Hid (SB (w.alloc (.cells #[.int .u64 0, .int .u64 0, .int .u64 0, .int .u64 0] 67)) w.heap.size 0 ∧ Below w.heap.size w (w.alloc (.cells #[.int .u64 0, .int .u64 0, .int .u64 0, .int .u64 0] 67))) := Lib.hid ⟨SB.zero w, (Below.refl _ _).alloc (Nat.le_refl _) _⟩
  go_enter Try.func48, Try.ntmps48
  go_upto_region 1 with fail
  revert hc
  generalize w.alloc (.cells #[.int .u64 0, .int .u64 0, .int .u64 0, .int .u64 0] 67) = W
  intro hc
  have d0 := hc.out.1.at (i := 0) (by decide)
  have d1 := hc.out.1.at (i := 1) (by decide)
  have d2 := hc.out.1.at (i := 2) (by decide)
  have d3 := hc.out.1.at (i := 3) (by decide)
  have df0 := hc.out.1.free 0
  have df1 := hc.out.1.free 1
  have df2 := hc.out.1.free 2
  have df3 := hc.out.1.free 3
  go_wp2_with (first
    | (go_at_call 50; with_reducible refine (cs_readSign s c (45 :: (Cs.sgn d ++ rest)) HS.out HH.out _).mono ?_; rintro e W1 ⟨rfl, rfl⟩; rw [HN.out.1])
    | (go_at_call 50; with_reducible refine (cs_readSign u d rest HU.out.2 HU.out.1 _).mono ?_; rintro e W1 ⟨rfl, rfl⟩; rw [HN.out.2])
    | (go_at_call 51; refine (cs_span c.toNat d.toNat c.toNat_lt d.toNat_lt _).mono ?_; rintro e W2 ⟨rfl, hb2⟩; rw [HX.out]; unfold Cs.sv; have HC : Hid (SB W2 w.heap.size 0 ∧ Below w.heap.size w W2) := Lib.hid ⟨hc.out.1.below hb2, hc.out.2.trans (hb2.mono hc.out.2.size)⟩; clear hb2 d0 d1 d2 d3 df0 df1 df2 df3; have d0 := HC.out.1.at (i := 0) (by decide); have df0 := HC.out.1.free 0; have d1 := HC.out.1.at (i := 1) (by decide); have df1 := HC.out.1.free 1; have d2 := HC.out.1.at (i := 2) (by decide); have df2 := HC.out.1.free 2; have d3 := HC.out.1.at (i := 3) (by decide); have df3 := HC.out.1.free 3))
  have hr := Lib.hid (HC.out.1.res HC.out.2 (Nat.le_refl _) X)
  clear d0 d1 d2 d3 df0 df1 df2 df3 HC
  revert hr
  generalize (((W2.setCell ⟨w.heap.size, 0, none⟩ (.int .u64 (Cs.wd X 0))).setCell ⟨w.heap.size, 1, none⟩ (.int .u64 (Cs.wd X 1))).setCell ⟨w.heap.size, 2, none⟩ (.int .u64 (Cs.wd X 2))).setCell ⟨w.heap.size, 3, none⟩ (.int .u64 (Cs.wd X 3)) = W3
  intro hr
  have c0 := hr.out.1.at (i := 0) (by decide)
  have c1 := hr.out.1.at (i := 1) (by decide)
  have c2 := hr.out.1.at (i := 2) (by decide)
  have c3 := hr.out.1.at (i := 3) (by decide)
  refine bodyPost_ret (v := .tuple #[.agg #[.int .u64 (Cs.wd X 0), .int .u64 (Cs.wd X 1), .int .u64 (Cs.wd X 2), .int .u64 (Cs.wd X 3)], .int .i64 ((n : Int) + (1 + (m : Int))), .int .i64 0]) (by simp [results, Try.results48, go_sem, c0, c1, c2, c3]) rfl ?_
  exact ⟨by rw [Int.natCast_add, Int.natCast_add]; rfl, hr.out.2⟩
/-- A part, whichever. -/
theorem cs_readPart (s : ByteArray) (p : UInt8 × Option UInt8) (rest : List UInt8) (hs : s.size ≤ 1000000) (h : s.data.toList = Cs.ptxt p ++ rest) (hp : Cs.okP p) (hr : rest.head? ≠ some 45) (w : World) :
    Calls Try.prog 48 #[.string s] w fun e w' => e = .returned (.tuple #[Cs.sv (Cs.pset p), .int .i64 ((Cs.ptxt p).length : Nat), .int .i64 0]) ∧ Below w.heap.size w w' := by
  obtain ⟨c, o⟩ := p
  cases o with
  | none => exact cs_readPart1 s c rest hs h hr w
  | some d =>
    have e : (Cs.ptxt (c, some d)).length = (Cs.sgn c).length + (1 + (Cs.sgn d).length) := by simp [Cs.ptxt]; omega
    rw [e]
    exact cs_readPart2 s c d rest hs (by rw [h]; simp [Cs.ptxt]) (hp d rfl) w
end Go.Proofs.Ytoniipmgkoogbaa
