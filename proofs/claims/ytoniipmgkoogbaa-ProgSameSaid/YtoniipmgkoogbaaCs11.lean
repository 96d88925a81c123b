/- Contracts of sets of bytes: what a set's text is read as. -/
import Derived.Test.YtoniipmgkoogbaaCs10
namespace Go.Proofs.Ytoniipmgkoogbaa
open Go.ChangeShapes Go.WideShapes Go.ChangeAt Go.RowKit
set_option linter.unusedSimpArgs false
set_option linter.unusedVariables false

set_option maxRecDepth 20000 in
theorem cs_read_plain (s : ByteArray) (ps : List (UInt8 × Option UInt8)) (rest : List UInt8) (hs : s.size ≤ 1000000) (h : s.data.toList = [91] ++ (Cs.txt ps ++ 93 :: rest)) (hp : ∀ p ∈ ps, Cs.okP p) (hne : ps ≠ []) (F : BitVec 256) (hF : Cs.setP ps = F) (w : World) :
    Calls Try.prog 40 #[.string s] w fun e w' => e = .returned (.tuple #[Cs.sv F, .int .i64 (1 + ((Cs.txt ps).length + 1) : Nat), .int .i64 0]) ∧ Below w.heap.size w w' := by
  obtain ⟨n, hn⟩ : ∃ n, (Cs.txt ps).length = n := ⟨_, rfl⟩
  have HN := Lib.hid hn
  obtain ⟨l, hl⟩ : ∃ l, s.size = l := ⟨_, rfl⟩
  have hsl : l = 1 + n + 1 + rest.length := by rw [← hl, size_of h]; simp [hn]; omega
  have hl2 : 1 + n + 1 ≤ l := by omega
  have he := ne_empty s (by omega)
  rw [hn]
  obtain ⟨l0, e0⟩ := at_of (i := 0) h rfl
  have c0 : (s[0].toNat : Int) = 91 := by rw [e0]; rfl
  have hhead : ∃ b r, Cs.txt ps ++ 93 :: rest = b :: r ∧ b ≠ 94 := by
    cases ps with
    | nil => exact absurd rfl hne
    | cons p q =>
      obtain ⟨b, r, h1, _, _, h4⟩ := ptxt_head p
      exact ⟨b, r ++ (Cs.txt q ++ 93 :: rest), by rw [txt_cons, h1]; simp, h4⟩
  obtain ⟨b, r, hb1, hb2⟩ := hhead
  obtain ⟨l1, e1⟩ := at_of (i := 1) (b := b) h (by rw [hb1]; rfl)
  have c1 : ((s[1].toNat : Int) == 94) = false := by rw [e1, beq_eq_false_iff_ne]; exact fun e => hb2 (u8_eq e)
  obtain ⟨u, hu⟩ : ∃ u, s.extract 1 l = u := ⟨_, rfl⟩
  have HU : Hid (u.data.toList = Cs.txt ps ++ 93 :: rest ∧ u.size ≤ 1000000) := Lib.hid (by
    have e := ext_drop hl hu
    rw [h] at e
    have e2 : u.data.toList = Cs.txt ps ++ 93 :: rest := by rw [e]; rfl
    refine ⟨e2, ?_⟩
    rw [size_of e2, List.length_append, List.length_cons, hn]; omega)
  have HP := Lib.hid (And.intro hp (And.intro hne hF))
  have hl6 : l ≤ 1000000 := by omega
  have w1 : IntKind.i64.wrap (1 + ((n : Int) + 1)) = 1 + ((n : Int) + 1) := IntWalk.i64_in _ (by omega)
  have hl3 : 1 < (l : Int) := by omega
  have hl4 : 1 < l := by omega
  have hl5 : 1 ≤ l := by omega
  clear e0 e1 hn h hp hne hF hs hsl hb1 hb2
  have hc : Hid (SB (w.alloc (.cells #[.int .u64 0, .int .u64 0, .int .u64 0, .int .u64 0] 67)) w.heap.size 0 ∧ Below w.heap.size w (w.alloc (.cells #[.int .u64 0, .int .u64 0, .int .u64 0, .int .u64 0] 67))) := Lib.hid ⟨SB.zero w, (Below.refl _ _).alloc (Nat.le_refl _) _⟩
  go_enter Try.func40, Try.ntmps40
  go_upto_region 1 with fail
  revert hc
  generalize w.alloc (.cells #[.int .u64 0, .int .u64 0, .int .u64 0, .int .u64 0] 67) = W
  intro hc
  go_upto_region 9 with (go_at_call 45; refine (cs_readParts u ps rest HU.out.2 HU.out.1 HP.out.1 HP.out.2.1 _).mono ?_; rintro e W1 ⟨rfl, hb1⟩; rw [HP.out.2.2, HN.out, Int.natCast_add]; unfold Cs.sv; have HB1 : Hid (SB W1 w.heap.size 0 ∧ Below w.heap.size w W1) := Lib.hid ⟨hc.out.1.below hb1, hc.out.2.trans (hb1.mono hc.out.2.size)⟩; clear hb1)
  have HB2 : Hid (SB (W1.alloc (.cells #[.int .u64 (Cs.wd F 0), .int .u64 (Cs.wd F 1), .int .u64 (Cs.wd F 2), .int .u64 (Cs.wd F 3)] 67)) W1.heap.size F ∧ SB (W1.alloc (.cells #[.int .u64 (Cs.wd F 0), .int .u64 (Cs.wd F 1), .int .u64 (Cs.wd F 2), .int .u64 (Cs.wd F 3)] 67)) w.heap.size 0 ∧ Below w.heap.size w (W1.alloc (.cells #[.int .u64 (Cs.wd F 0), .int .u64 (Cs.wd F 1), .int .u64 (Cs.wd F 2), .int .u64 (Cs.wd F 3)] 67)) ∧ w.heap.size < W1.heap.size) := Lib.hid ⟨SB.new W1 F, HB1.out.1.alloc _, HB1.out.2.alloc HB1.out.2.size _, HB1.out.1.lt⟩
  clear hc HB1
  revert HB2
  generalize W1.alloc (.cells #[.int .u64 (Cs.wd F 0), .int .u64 (Cs.wd F 1), .int .u64 (Cs.wd F 2), .int .u64 (Cs.wd F 3)] 67) = V
  generalize W1.heap.size = D
  intro HB2
  have hD := HB2.out.2.2.2
  replace HB2 : Hid (SB V D F ∧ SB V w.heap.size 0 ∧ Below w.heap.size w V) := Lib.hid ⟨HB2.out.1, HB2.out.2.1, HB2.out.2.2.1⟩
  have y0 := HB2.out.1.at (i := 0) (by decide)
  have y1 := HB2.out.1.at (i := 1) (by decide)
  have y2 := HB2.out.1.at (i := 2) (by decide)
  have y3 := HB2.out.1.at (i := 3) (by decide)
  have d0 := HB2.out.2.1.at (i := 0) (by decide)
  have d1 := HB2.out.2.1.at (i := 1) (by decide)
  have d2 := HB2.out.2.1.at (i := 2) (by decide)
  have d3 := HB2.out.2.1.at (i := 3) (by decide)
  have df0 := HB2.out.2.1.free 0
  have df1 := HB2.out.2.1.free 1
  have df2 := HB2.out.2.1.free 2
  have df3 := HB2.out.2.1.free 3
  go_wp2
  have hr := Lib.hid (HB2.out.2.1.res HB2.out.2.2 (Nat.le_refl _) F)
  clear y0 y1 y2 y3 d0 d1 d2 d3 df0 df1 df2 df3 HB2
  revert hr
  generalize (((V.setCell ⟨w.heap.size, 0, none⟩ (.int .u64 (Cs.wd F 0))).setCell ⟨w.heap.size, 1, none⟩ (.int .u64 (Cs.wd F 1))).setCell ⟨w.heap.size, 2, none⟩ (.int .u64 (Cs.wd F 2))).setCell ⟨w.heap.size, 3, none⟩ (.int .u64 (Cs.wd F 3)) = W9
  intro hr
  have c0 := hr.out.1.at (i := 0) (by decide)
  have c1 := hr.out.1.at (i := 1) (by decide)
  have c2 := hr.out.1.at (i := 2) (by decide)
  have c3 := hr.out.1.at (i := 3) (by decide)
  refine bodyPost_ret (v := .tuple #[.agg #[.int .u64 (Cs.wd F 0), .int .u64 (Cs.wd F 1), .int .u64 (Cs.wd F 2), .int .u64 (Cs.wd F 3)], .int .i64 (1 + ((n : Int) + 1)), .int .i64 0]) (by simp [results, Try.results40, go_sem, c0, c1, c2, c3]) rfl ?_
  exact ⟨by rw [Int.natCast_add, Int.natCast_add]; rfl, hr.out.2⟩
set_option maxRecDepth 20000 in
theorem cs_read_not (s : ByteArray) (ps : List (UInt8 × Option UInt8)) (rest : List UInt8) (hs : s.size ≤ 1000000) (h : s.data.toList = [91, 94] ++ (Cs.txt ps ++ 93 :: rest)) (hp : ∀ p ∈ ps, Cs.okP p) (hne : ps ≠ []) (F : BitVec 256) (hF : Cs.setP ps = F) (w : World) :
    Calls Try.prog 40 #[.string s] w fun e w' => e = .returned (.tuple #[Cs.sv (~~~F), .int .i64 (2 + ((Cs.txt ps).length + 1) : Nat), .int .i64 0]) ∧ Below w.heap.size w w' := by
  obtain ⟨n, hn⟩ : ∃ n, (Cs.txt ps).length = n := ⟨_, rfl⟩
  have HN := Lib.hid hn
  obtain ⟨l, hl⟩ : ∃ l, s.size = l := ⟨_, rfl⟩
  have hsl : l = 2 + n + 1 + rest.length := by rw [← hl, size_of h]; simp [hn]; omega
  have hl2 : 2 + n + 1 ≤ l := by omega
  have he := ne_empty s (by omega)
  rw [hn]
  obtain ⟨l0, e0⟩ := at_of (i := 0) h rfl
  have c0 : (s[0].toNat : Int) = 91 := by rw [e0]; rfl
  obtain ⟨l1, e1⟩ := at_of (i := 1) h rfl
  have c1 : (s[1].toNat : Int) = 94 := by rw [e1]; rfl
  obtain ⟨u, hu⟩ : ∃ u, s.extract 2 l = u := ⟨_, rfl⟩
  have HU : Hid (u.data.toList = Cs.txt ps ++ 93 :: rest ∧ u.size ≤ 1000000) := Lib.hid (by
    have e := ext_drop hl hu
    rw [h] at e
    have e2 : u.data.toList = Cs.txt ps ++ 93 :: rest := by rw [e]; rfl
    refine ⟨e2, ?_⟩
    rw [size_of e2, List.length_append, List.length_cons, hn]; omega)
  have HP := Lib.hid (And.intro hp (And.intro hne hF))
  have hl6 : l ≤ 1000000 := by omega
  have w1 : IntKind.i64.wrap (2 + ((n : Int) + 1)) = 2 + ((n : Int) + 1) := IntWalk.i64_in _ (by omega)
  have hl3 : 1 < (l : Int) := by omega
  have hl4 : 1 < l := by omega
  have hl5 : 2 ≤ l := by omega
  clear e0 e1 hn h hp hne hF hs hsl
  have hc : Hid (SB (w.alloc (.cells #[.int .u64 0, .int .u64 0, .int .u64 0, .int .u64 0] 67)) w.heap.size 0 ∧ Below w.heap.size w (w.alloc (.cells #[.int .u64 0, .int .u64 0, .int .u64 0, .int .u64 0] 67))) := Lib.hid ⟨SB.zero w, (Below.refl _ _).alloc (Nat.le_refl _) _⟩
  go_enter Try.func40, Try.ntmps40
  go_upto_region 1 with fail
  revert hc
  generalize w.alloc (.cells #[.int .u64 0, .int .u64 0, .int .u64 0, .int .u64 0] 67) = W
  intro hc
  go_upto_region 9 with (go_at_call 45; refine (cs_readParts u ps rest HU.out.2 HU.out.1 HP.out.1 HP.out.2.1 _).mono ?_; rintro e W1 ⟨rfl, hb1⟩; rw [HP.out.2.2, HN.out, Int.natCast_add]; unfold Cs.sv; have HB1 : Hid (SB W1 w.heap.size 0 ∧ Below w.heap.size w W1) := Lib.hid ⟨hc.out.1.below hb1, hc.out.2.trans (hb1.mono hc.out.2.size)⟩; clear hb1)
  have HB2 : Hid (SB (W1.alloc (.cells #[.int .u64 (Cs.wd F 0), .int .u64 (Cs.wd F 1), .int .u64 (Cs.wd F 2), .int .u64 (Cs.wd F 3)] 67)) W1.heap.size F ∧ SB (W1.alloc (.cells #[.int .u64 (Cs.wd F 0), .int .u64 (Cs.wd F 1), .int .u64 (Cs.wd F 2), .int .u64 (Cs.wd F 3)] 67)) w.heap.size 0 ∧ Below w.heap.size w (W1.alloc (.cells #[.int .u64 (Cs.wd F 0), .int .u64 (Cs.wd F 1), .int .u64 (Cs.wd F 2), .int .u64 (Cs.wd F 3)] 67)) ∧ w.heap.size < W1.heap.size) := Lib.hid ⟨SB.new W1 F, HB1.out.1.alloc _, HB1.out.2.alloc HB1.out.2.size _, HB1.out.1.lt⟩
  clear hc HB1
  revert HB2
  generalize W1.alloc (.cells #[.int .u64 (Cs.wd F 0), .int .u64 (Cs.wd F 1), .int .u64 (Cs.wd F 2), .int .u64 (Cs.wd F 3)] 67) = V
  generalize W1.heap.size = D
  intro HB2
  have hD := HB2.out.2.2.2
  replace HB2 : Hid (SB V D F ∧ SB V w.heap.size 0 ∧ Below w.heap.size w V) := Lib.hid ⟨HB2.out.1, HB2.out.2.1, HB2.out.2.2.1⟩
  have y0 := HB2.out.1.at (i := 0) (by decide)
  have y1 := HB2.out.1.at (i := 1) (by decide)
  have y2 := HB2.out.1.at (i := 2) (by decide)
  have y3 := HB2.out.1.at (i := 3) (by decide)
  go_upto_region 13 with (first
    | fail
    | (go_at_call 44; rw [sv_def F]; refine (cs_not F _).mono ?_; rintro e W5 ⟨rfl, hb5⟩; unfold Cs.sv; have HB5 : Hid (SB W5 D F ∧ SB W5 w.heap.size 0 ∧ Below w.heap.size w W5) := Lib.hid ⟨HB2.out.1.below hb5, HB2.out.2.1.below hb5, HB2.out.2.2.trans (hb5.mono HB2.out.2.2.size)⟩; clear hb5 y0 y1 y2 y3; have y0 := HB5.out.1.at (i := 0) (by decide); have yf0 := HB5.out.1.free 0; have y1 := HB5.out.1.at (i := 1) (by decide); have yf1 := HB5.out.1.free 1; have y2 := HB5.out.1.at (i := 2) (by decide); have yf2 := HB5.out.1.free 2; have y3 := HB5.out.1.at (i := 3) (by decide); have yf3 := HB5.out.1.free 3))
  have HB6 := Lib.hid (set4_two HB5.out.2.1 HB5.out.1 HB5.out.2.2 (by omega) (by omega) (~~~F))
  clear y0 y1 y2 y3 yf0 yf1 yf2 yf3 HB5 HB2
  revert HB6
  generalize (((W5.setCell ⟨D, 0, none⟩ (.int .u64 (Cs.wd (~~~F) 0))).setCell ⟨D, 1, none⟩ (.int .u64 (Cs.wd (~~~F) 1))).setCell ⟨D, 2, none⟩ (.int .u64 (Cs.wd (~~~F) 2))).setCell ⟨D, 3, none⟩ (.int .u64 (Cs.wd (~~~F) 3)) = V6
  intro HB6
  have y0 := HB6.out.2.1.at (i := 0) (by decide)
  have y1 := HB6.out.2.1.at (i := 1) (by decide)
  have y2 := HB6.out.2.1.at (i := 2) (by decide)
  have y3 := HB6.out.2.1.at (i := 3) (by decide)
  have d0 := HB6.out.1.at (i := 0) (by decide)
  have d1 := HB6.out.1.at (i := 1) (by decide)
  have d2 := HB6.out.1.at (i := 2) (by decide)
  have d3 := HB6.out.1.at (i := 3) (by decide)
  have df0 := HB6.out.1.free 0
  have df1 := HB6.out.1.free 1
  have df2 := HB6.out.1.free 2
  have df3 := HB6.out.1.free 3
  go_wp2
  have hr := Lib.hid (HB6.out.1.res HB6.out.2.2 (Nat.le_refl _) (~~~F))
  clear y0 y1 y2 y3 d0 d1 d2 d3 df0 df1 df2 df3 HB6
  revert hr
  generalize (((V6.setCell ⟨w.heap.size, 0, none⟩ (.int .u64 (Cs.wd (~~~F) 0))).setCell ⟨w.heap.size, 1, none⟩ (.int .u64 (Cs.wd (~~~F) 1))).setCell ⟨w.heap.size, 2, none⟩ (.int .u64 (Cs.wd (~~~F) 2))).setCell ⟨w.heap.size, 3, none⟩ (.int .u64 (Cs.wd (~~~F) 3)) = W9
  intro hr
  have c0 := hr.out.1.at (i := 0) (by decide)
  have c1 := hr.out.1.at (i := 1) (by decide)
  have c2 := hr.out.1.at (i := 2) (by decide)
  have c3 := hr.out.1.at (i := 3) (by decide)
  refine bodyPost_ret (v := .tuple #[.agg #[.int .u64 (Cs.wd (~~~F) 0), .int .u64 (Cs.wd (~~~F) 1), .int .u64 (Cs.wd (~~~F) 2), .int .u64 (Cs.wd (~~~F) 3)], .int .i64 (2 + ((n : Int) + 1)), .int .i64 0]) (by simp [results, Try.results40, go_sem, c0, c1, c2, c3]) rfl ?_
  exact ⟨by rw [Int.natCast_add, Int.natCast_add]; rfl, hr.out.2⟩
end Go.Proofs.Ytoniipmgkoogbaa
