/- Contracts of sets of bytes: what a sign and a part are read as. -/
import Derived.Test.YtoniipmgkoogbaaCs7
namespace Go.Proofs.Ytoniipmgkoogbaa
open Go.ChangeShapes Go.WideShapes Go.ChangeAt Go.RowKit
set_option linter.unusedSimpArgs false
set_option linter.unusedVariables false

theorem at_of {s : ByteArray} {l : List UInt8} {i : Nat} {b : UInt8} (h : s.data.toList = l) (hb : l[i]? = some b) : ∃ hi : i < s.size, s[i] = b := by
  rw [← h] at hb
  obtain ⟨h1, h2⟩ := List.getElem?_eq_some_iff.1 hb
  exact ⟨by simpa using h1, h2⟩
theorem cs_readSign (s : ByteArray) (b : UInt8) (rest : List UInt8) (hs : s.size ≤ 1000000) (h : s.data.toList = Cs.sgn b ++ rest) (w : World) :
    Calls Try.prog 50 #[.string s] w fun e w' => e = .returned (.tuple #[.int .u8 b.toNat, .int .i64 ((Cs.sgn b).length : Nat), .int .i64 0]) ∧ w' = w := by
  by_cases hb : b = 37 ∨ b = 93 ∨ b = 45 ∨ b = 94
  · have e : Cs.sgn b = [37, b] := by unfold Cs.sgn; rw [if_pos hb]
    rw [e] at h ⊢
    obtain ⟨l0, e0⟩ := at_of (i := 0) h rfl
    obtain ⟨l1, e1⟩ := at_of (i := 1) h rfl
    have he := ne_empty s l0
    have c0 : (s[0].toNat : Int) = 37 := by rw [e0]; rfl
    have c1 : (s[1].toNat : Int) = b.toNat := by rw [e1]
    have n1 : ((s.size : Int) == 1) = false := by rw [beq_eq_false_iff_ne]; omega
    clear e0 e1 h e hb
    go_enter Try.func50, Try.ntmps50
    go_wp2
    go_ret3
    exact ⟨rfl, rfl⟩
  · have e : Cs.sgn b = [b] := by unfold Cs.sgn; rw [if_neg hb]
    rw [e] at h ⊢
    obtain ⟨l0, e0⟩ := at_of (i := 0) h rfl
    have he := ne_empty s l0
    have c0 : (s[0].toNat : Int) = b.toNat := by rw [e0]
    have k1 : ((b.toNat : Int) == 37) = false := by rw [beq_eq_false_iff_ne]; exact fun e => hb (Or.inl (u8_eq e))
    have k2 : ((b.toNat : Int) == 93) = false := by rw [beq_eq_false_iff_ne]; exact fun e => hb (Or.inr (Or.inl (u8_eq e)))
    have k3 : ((b.toNat : Int) == 45) = false := by rw [beq_eq_false_iff_ne]; exact fun e => hb (Or.inr (Or.inr (Or.inl (u8_eq e))))
    clear e0 h e hb
    go_enter Try.func50, Try.ntmps50
    go_wp2
    go_ret3
    exact ⟨rfl, rfl⟩
theorem sv_zero : Value.agg #[.int .u64 0, .int .u64 0, .int .u64 0, .int .u64 0] = Cs.sv 0 := rfl
theorem cs_with0 (b : UInt8) (w : World) :
    Calls Try.prog 46 #[.agg #[.int .u64 0, .int .u64 0, .int .u64 0, .int .u64 0], .int .u8 b.toNat] w fun e w' => e = .returned (Cs.sv (Cs.bitS b.toNat)) ∧ Below w.heap.size w w' := by
  have h := cs_with 0 b.toNat b.toNat_lt w
  rwa [show (0 : BitVec 256) ||| Cs.bitS b.toNat = Cs.bitS b.toNat by simp] at h
theorem ext_drop {s u : ByteArray} {k l : Nat} (hl : s.size = l) (hu : s.extract k l = u) : u.data.toList = s.data.toList.drop k := by
  rw [← hu, ByteArray.data_extract, Array.toList_extract, List.extract_eq_take_drop]
  exact List.take_of_length_le (by rw [List.length_drop]; simp [hl])
set_option maxRecDepth 20000 in
theorem cs_readPart1 (s : ByteArray) (c : UInt8) (rest : List UInt8) (hs : s.size ≤ 1000000) (h : s.data.toList = Cs.sgn c ++ rest) (hr : rest.head? ≠ some 45) (w : World) :
    Calls Try.prog 48 #[.string s] w fun e w' => e = .returned (.tuple #[Cs.sv (Cs.bitS c.toNat), .int .i64 ((Cs.sgn c).length : Nat), .int .i64 0]) ∧ Below w.heap.size w w' := by
  have HH := Lib.hid h
  obtain ⟨n, hn⟩ : ∃ n, (Cs.sgn c).length = n := ⟨_, rfl⟩
  have HN := Lib.hid hn
  obtain ⟨X, hX⟩ : ∃ X, Cs.bitS c.toNat = X := ⟨_, rfl⟩
  have HX := Lib.hid hX
  rw [hn, hX]
  have hsl : s.size = n + rest.length := by rw [size_of h, List.length_append, hn]
  have hcase : Hid (rest = [] ∨ ∃ b r, rest = b :: r ∧ b ≠ 45) := Lib.hid (by
    cases rest with
    | nil => exact Or.inl rfl
    | cons b r => exact Or.inr ⟨b, r, rfl, fun e => hr (by rw [e]; rfl)⟩)
  clear hn hX hr h
  have hc : Hid (SB (w.alloc (.cells #[.int .u64 0, .int .u64 0, .int .u64 0, .int .u64 0] 67)) w.heap.size 0 ∧ Below w.heap.size w (w.alloc (.cells #[.int .u64 0, .int .u64 0, .int .u64 0, .int .u64 0] 67))) := Lib.hid ⟨SB.zero w, (Below.refl _ _).alloc (Nat.le_refl _) _⟩
  rcases hcase.out with rfl | ⟨b, r, rfl, hb⟩
  · have n0 : (n : Int) = (s.size : Int) := by simp at hsl; omega
    have hsn : s.size = n := by simpa using hsl
    go_enter Try.func48, Try.ntmps48
    go_upto_region 1 with fail
    revert hc
    generalize w.alloc (.cells #[.int .u64 0, .int .u64 0, .int .u64 0, .int .u64 0] 67) = W
    intro hc
    clear hsl n0
    have d0 := hc.out.1.at (i := 0) (by decide)
    have d1 := hc.out.1.at (i := 1) (by decide)
    have d2 := hc.out.1.at (i := 2) (by decide)
    have d3 := hc.out.1.at (i := 3) (by decide)
    have df0 := hc.out.1.free 0
    have df1 := hc.out.1.free 1
    have df2 := hc.out.1.free 2
    have df3 := hc.out.1.free 3
    go_wp2_with (first
      | (go_at_call 50; refine (cs_readSign s c [] hs HH.out _).mono ?_; rintro e W1 ⟨rfl, rfl⟩; rw [HN.out])
      | (go_at_call 46; refine (cs_with0 c _).mono ?_; rintro e W2 ⟨rfl, hb2⟩; rw [HX.out]; unfold Cs.sv; have HC : Hid (SB W2 w.heap.size 0 ∧ Below w.heap.size w W2) := Lib.hid ⟨hc.out.1.below hb2, hc.out.2.trans (hb2.mono hc.out.2.size)⟩; clear hb2 d0 d1 d2 d3 df0 df1 df2 df3; have d0 := HC.out.1.at (i := 0) (by decide); have df0 := HC.out.1.free 0; have d1 := HC.out.1.at (i := 1) (by decide); have df1 := HC.out.1.free 1; have d2 := HC.out.1.at (i := 2) (by decide); have df2 := HC.out.1.free 2; have d3 := HC.out.1.at (i := 3) (by decide); have df3 := HC.out.1.free 3))
    have hr := Lib.hid (HC.out.1.res HC.out.2 (Nat.le_refl _) X)
    clear d0 d1 d2 d3 df0 df1 df2 df3 HC
    revert hr
    generalize (((W2.setCell ⟨w.heap.size, 0, none⟩ (.int .u64 (Cs.wd X 0))).setCell ⟨w.heap.size, 1, none⟩ (.int .u64 (Cs.wd X 1))).setCell ⟨w.heap.size, 2, none⟩ (.int .u64 (Cs.wd X 2))).setCell ⟨w.heap.size, 3, none⟩ (.int .u64 (Cs.wd X 3)) = W3
    intro hr
    have c0 := hr.out.1.at (i := 0) (by decide)
    have c1 := hr.out.1.at (i := 1) (by decide)
    have c2 := hr.out.1.at (i := 2) (by decide)
    have c3 := hr.out.1.at (i := 3) (by decide)
    refine bodyPost_ret (v := .tuple #[.agg #[.int .u64 (Cs.wd X 0), .int .u64 (Cs.wd X 1), .int .u64 (Cs.wd X 2), .int .u64 (Cs.wd X 3)], .int .i64 n, .int .i64 0]) (by simp [results, Try.results48, go_sem, c0, c1, c2, c3]) rfl ?_
    exact ⟨rfl, hr.out.2⟩
  · obtain ⟨ln, en⟩ := at_of (i := n) HH.out (by rw [List.getElem?_append_right (by rw [HN.out]; omega), HN.out]; simp; rfl)
    have n0 : ((n : Int) == (s.size : Int)) = false := by rw [beq_eq_false_iff_ne]; omega
    have cb : ((s[n].toNat : Int) != 45) = true := by
      rw [en, bne_iff_ne]; exact fun e => hb (u8_eq e)
    clear en hb
    go_enter Try.func48, Try.ntmps48
    go_upto_region 1 with fail
    revert hc
    generalize w.alloc (.cells #[.int .u64 0, .int .u64 0, .int .u64 0, .int .u64 0] 67) = W
    intro hc
    have d0 := hc.out.1.at (i := 0) (by decide)
    have d1 := hc.out.1.at (i := 1) (by decide)
    have d2 := hc.out.1.at (i := 2) (by decide)
    have d3 := hc.out.1.at (i := 3) (by decide)
    have df0 := hc.out.1.free 0
    have df1 := hc.out.1.free 1
    have df2 := hc.out.1.free 2
    have df3 := hc.out.1.free 3
    go_wp2_with (first
      | (go_at_call 50; refine (cs_readSign s c (b :: r) hs HH.out _).mono ?_; rintro e W1 ⟨rfl, rfl⟩; rw [HN.out])
      | (go_at_call 46; refine (cs_with0 c _).mono ?_; rintro e W2 ⟨rfl, hb2⟩; rw [HX.out]; unfold Cs.sv; have HC : Hid (SB W2 w.heap.size 0 ∧ Below w.heap.size w W2) := Lib.hid ⟨hc.out.1.below hb2, hc.out.2.trans (hb2.mono hc.out.2.size)⟩; clear hb2 d0 d1 d2 d3 df0 df1 df2 df3; have d0 := HC.out.1.at (i := 0) (by decide); have df0 := HC.out.1.free 0; have d1 := HC.out.1.at (i := 1) (by decide); have df1 := HC.out.1.free 1; have d2 := HC.out.1.at (i := 2) (by decide); have df2 := HC.out.1.free 2; have d3 := HC.out.1.at (i := 3) (by decide); have df3 := HC.out.1.free 3))
    have hr := Lib.hid (HC.out.1.res HC.out.2 (Nat.le_refl _) X)
    clear d0 d1 d2 d3 df0 df1 df2 df3 HC
    revert hr
    generalize (((W2.setCell ⟨w.heap.size, 0, none⟩ (.int .u64 (Cs.wd X 0))).setCell ⟨w.heap.size, 1, none⟩ (.int .u64 (Cs.wd X 1))).setCell ⟨w.heap.size, 2, none⟩ (.int .u64 (Cs.wd X 2))).setCell ⟨w.heap.size, 3, none⟩ (.int .u64 (Cs.wd X 3)) = W3
    intro hr
    have c0 := hr.out.1.at (i := 0) (by decide)
    have c1 := hr.out.1.at (i := 1) (by decide)
    have c2 := hr.out.1.at (i := 2) (by decide)
    have c3 := hr.out.1.at (i := 3) (by decide)
    refine bodyPost_ret (v := .tuple #[.agg #[.int .u64 (Cs.wd X 0), .int .u64 (Cs.wd X 1), .int .u64 (Cs.wd X 2), .int .u64 (Cs.wd X 3)], .int .i64 n, .int .i64 0]) (by simp [results, Try.results48, go_sem, c0, c1, c2, c3]) rfl ?_
    exact ⟨rfl, hr.out.2⟩
end Go.Proofs.Ytoniipmgkoogbaa
