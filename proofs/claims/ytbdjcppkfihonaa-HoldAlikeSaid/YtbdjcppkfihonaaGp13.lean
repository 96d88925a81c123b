/- The document's Read of any text. -/
import Derived.Test.YtbdjcppkfihonaaGp12a
import Derived.Test.YtbdjcppkfihonaaGp12b
import Derived.Test.YtbdjcppkfihonaaGp12c
namespace Go.Proofs.Ytbdjcppkfihonaa
open Go.ChangeShapes Go.WideShapes Go.ChangeAt Go.RowKit
set_option linter.unusedSimpArgs false
set_option linter.unusedVariables false

set_option maxRecDepth 20000 in
set_option maxHeartbeats 4000000 in
theorem rp_none (w : World) :
    Calls Try.prog 94 #[.string { data := #[] }] w fun r w' => r = .returned (.tuple #[Cs.sv 0, .int .i64 0, .int .i64 3]) ∧ Below w.heap.size w w' := by
  obtain ⟨N, hN⟩ : ∃ N, ByteArray.size { data := #[] } = N := ⟨_, rfl⟩
  have HN : Hid (ByteArray.size { data := #[] } = N ∧ (if 0 = N then 3 else 2) = 3) := Lib.hid ⟨hN, by rw [← hN]; rfl⟩
  clear hN
  obtain ⟨R, hR⟩ : ∃ R, w.heap.size = R := ⟨_, rfl⟩
  have HR0 : Hid (w.heap.size = R) := Lib.hid hR
  have hc : Hid (SB (w.alloc (.cells #[.int .u64 0, .int .u64 0, .int .u64 0, .int .u64 0] 154)) R 0 ∧ Below w.heap.size w (w.alloc (.cells #[.int .u64 0, .int .u64 0, .int .u64 0, .int .u64 0] 154))) := Lib.hid ⟨by rw [← hR]; exact SB.zero w, (Below.refl _ _).alloc (Nat.le_refl _) _⟩
  go_enter Try.func94, Try.ntmps94
  go_upto_region 1 with fail
  revert hc
  generalize w.alloc (.cells #[.int .u64 0, .int .u64 0, .int .u64 0, .int .u64 0] 154) = W
  intro hc
  clear hR
  go_upto_region 2 with (go_at_call 102; refine (rf_none _).mono ?_; rintro e W1 ⟨g, cap, rfl, h1, h2, h3⟩; have HG : Hid (R < g) := Lib.hid (Nat.lt_of_lt_of_le hc.out.1.lt h1); have HB : Hid (SB W1 R 0 ∧ Rw W1 g cap (bl (fun _ => false) 256) 4 ∧ Below w.heap.size w W1) := Lib.hid ⟨hc.out.1.below h3, h2, hc.out.2.trans (h3.mono hc.out.2.size)⟩; clear h1 h2 h3 hc)
  go_wp2_with (go_at_call 103; with_reducible refine (rp_stopI { data := #[] } N 0 3 0 (by simp) HN.out.1 HN.out.2 _).mono ?_; rintro e W3 ⟨rfl, hb3⟩; unfold Cs.sv; have HC : Hid (SB W3 R 0 ∧ Below w.heap.size w W3) := Lib.hid ⟨HB.out.1.below hb3, HB.out.2.2.trans (hb3.mono HB.out.2.2.size)⟩; clear hb3; have d0 := HC.out.1.at (i := 0) (by decide); have d1 := HC.out.1.at (i := 1) (by decide); have d2 := HC.out.1.at (i := 2) (by decide); have d3 := HC.out.1.at (i := 3) (by decide); have df0 := HC.out.1.free 0; have df1 := HC.out.1.free 1; have df2 := HC.out.1.free 2; have df3 := HC.out.1.free 3)
  have hr := Lib.hid (HC.out.1.res HC.out.2 (by have := HR0.out; omega) 0)
  clear d0 d1 d2 d3 df0 df1 df2 df3 HC
  revert hr
  generalize (((W3.setCell ⟨R, 0, none⟩ (.int .u64 (Cs.wd 0 0))).setCell ⟨R, 1, none⟩ (.int .u64 (Cs.wd 0 1))).setCell ⟨R, 2, none⟩ (.int .u64 (Cs.wd 0 2))).setCell ⟨R, 3, none⟩ (.int .u64 (Cs.wd 0 3)) = W9
  intro hr
  have c0 := hr.out.1.at (i := 0) (by decide)
  have c1 := hr.out.1.at (i := 1) (by decide)
  have c2 := hr.out.1.at (i := 2) (by decide)
  have c3 := hr.out.1.at (i := 3) (by decide)
  refine bodyPost_ret (v := .tuple #[.agg #[.int .u64 (Cs.wd 0 0), .int .u64 (Cs.wd 0 1), .int .u64 (Cs.wd 0 2), .int .u64 (Cs.wd 0 3)], .int .i64 0, .int .i64 3]) (by simp [results, Try.results94, go_sem, c0, c1, c2, c3]) rfl ?_
  exact ⟨rfl, hr.out.2⟩
set_option maxRecDepth 20000 in
set_option maxHeartbeats 4000000 in
theorem rp_other (s : ByteArray) (N : Nat) (hN : s.size = N) (hN6 : N ≤ 1000000) (c0' : ∃ h : 0 < s.size, ((s[0].toNat : Int) == 91) = false) (w : World) :
    Calls Try.prog 94 #[.string s] w fun r w' => r = .returned (.tuple #[Cs.sv 0, .int .i64 0, .int .i64 2]) ∧ Below w.heap.size w w' := by
  obtain ⟨l0, c0⟩ := c0'
  have he := ne_empty s l0
  have HN : Hid (s.size = N ∧ (if 0 = N then 3 else 2) = 2) := Lib.hid ⟨hN, by rw [if_neg (by omega)]⟩
  obtain ⟨R, hR⟩ : ∃ R, w.heap.size = R := ⟨_, rfl⟩
  have HR0 : Hid (w.heap.size = R) := Lib.hid hR
  have hc : Hid (SB (w.alloc (.cells #[.int .u64 0, .int .u64 0, .int .u64 0, .int .u64 0] 154)) R 0 ∧ Below w.heap.size w (w.alloc (.cells #[.int .u64 0, .int .u64 0, .int .u64 0, .int .u64 0] 154))) := Lib.hid ⟨by rw [← hR]; exact SB.zero w, (Below.refl _ _).alloc (Nat.le_refl _) _⟩
  go_enter Try.func94, Try.ntmps94
  go_upto_region 1 with fail
  revert hc
  generalize w.alloc (.cells #[.int .u64 0, .int .u64 0, .int .u64 0, .int .u64 0] 154) = W
  intro hc
  clear hR
  go_upto_region 2 with (go_at_call 102; refine (rf_none _).mono ?_; rintro e W1 ⟨g, cap, rfl, h1, h2, h3⟩; have HG : Hid (R < g) := Lib.hid (Nat.lt_of_lt_of_le hc.out.1.lt h1); have HB : Hid (SB W1 R 0 ∧ Rw W1 g cap (bl (fun _ => false) 256) 4 ∧ Below w.heap.size w W1) := Lib.hid ⟨hc.out.1.below h3, h2, hc.out.2.trans (h3.mono hc.out.2.size)⟩; clear h1 h2 h3 hc)
  go_wp2_with (go_at_call 103; with_reducible refine (rp_stopI s N 0 2 0 (by simp) HN.out.1 HN.out.2 _).mono ?_; rintro e W3 ⟨rfl, hb3⟩; unfold Cs.sv; have HC : Hid (SB W3 R 0 ∧ Below w.heap.size w W3) := Lib.hid ⟨HB.out.1.below hb3, HB.out.2.2.trans (hb3.mono HB.out.2.2.size)⟩; clear hb3; have d0 := HC.out.1.at (i := 0) (by decide); have d1 := HC.out.1.at (i := 1) (by decide); have d2 := HC.out.1.at (i := 2) (by decide); have d3 := HC.out.1.at (i := 3) (by decide); have df0 := HC.out.1.free 0; have df1 := HC.out.1.free 1; have df2 := HC.out.1.free 2; have df3 := HC.out.1.free 3)
  have hr := Lib.hid (HC.out.1.res HC.out.2 (by have := HR0.out; omega) 0)
  clear d0 d1 d2 d3 df0 df1 df2 df3 HC
  revert hr
  generalize (((W3.setCell ⟨R, 0, none⟩ (.int .u64 (Cs.wd 0 0))).setCell ⟨R, 1, none⟩ (.int .u64 (Cs.wd 0 1))).setCell ⟨R, 2, none⟩ (.int .u64 (Cs.wd 0 2))).setCell ⟨R, 3, none⟩ (.int .u64 (Cs.wd 0 3)) = W9
  intro hr
  have c0 := hr.out.1.at (i := 0) (by decide)
  have c1 := hr.out.1.at (i := 1) (by decide)
  have c2 := hr.out.1.at (i := 2) (by decide)
  have c3 := hr.out.1.at (i := 3) (by decide)
  refine bodyPost_ret (v := .tuple #[.agg #[.int .u64 (Cs.wd 0 0), .int .u64 (Cs.wd 0 1), .int .u64 (Cs.wd 0 2), .int .u64 (Cs.wd 0 3)], .int .i64 0, .int .i64 2]) (by simp [results, Try.results94, go_sem, c0, c1, c2, c3]) rfl ?_
  exact ⟨rfl, hr.out.2⟩
theorem rp_rdC (s : ByteArray) (l : List UInt8) (hs : s.size ≤ 1000000) (h : s.data.toList = l) (X : BitVec 256) (n e : Nat) (hr : Cs.rdC l = (X, n, e)) (w : World) :
    Calls Try.prog 94 #[.string s] w fun r w' => r = .returned (.tuple #[Cs.sv X, .int .i64 n, .int .i64 e]) ∧ Below w.heap.size w w' := by
  match l, h, hr with
  | [], h, hr =>
    obtain rfl := empty_of h
    simp only [Cs.rdC, Prod.mk.injEq] at hr
    obtain ⟨rfl, rfl, rfl⟩ := hr
    exact rp_none w
  | b :: r, h, hr =>
    obtain ⟨l0, e0⟩ := at_of (i := 0) h rfl
    rw [rdC_cons] at hr
    have hN : s.size = r.length + 1 := by rw [size_of h]; rfl
    by_cases hb : b = 91
    · subst hb
      rw [if_neg (by simp)] at hr
      have c0 : (s[0].toNat : Int) = 91 := by rw [e0]; rfl
      by_cases hh : r.head? = some 94
      · rw [if_pos hh] at hr
        obtain ⟨r2, rfl⟩ : ∃ r2, r = 94 :: r2 := by
          cases r with
          | nil => simp at hh
          | cons x y => simp at hh; exact ⟨y, by rw [hh]⟩
        obtain ⟨l1, e1⟩ := at_of (i := 1) (b := 94) h rfl
        exact rp_two s (91 :: 94 :: r2) r2 s.size rfl hs h rfl _ X _ _ n e r2.length (by have : (94 :: r2 : List UInt8).length = r2.length + 1 := rfl; omega) rfl hr ⟨l0, c0⟩ (by omega) ⟨l1, by rw [e1]; rfl⟩ w
      · rw [if_neg hh] at hr
        by_cases h1 : 1 < s.size
        · refine rp_one2 s (91 :: r) r s.size rfl hs h rfl _ X _ _ n e r.length (by omega) rfl hr ⟨l0, c0⟩ h1 ⟨h1, ?_⟩ w
          rw [beq_eq_false_iff_ne]
          intro e
          apply hh
          have hb1 := byte_at h1
          rw [h, u8_eq (c := s[1]) (d := 94) e] at hb1
          rw [List.head?_eq_getElem?]
          simpa using hb1
        · exact rp_one1 s (91 :: r) r s.size rfl hs h rfl _ X _ _ n e r.length (by omega) rfl hr ⟨l0, c0⟩ (by omega) w
    · rw [if_pos hb] at hr
      simp only [Prod.mk.injEq] at hr
      obtain ⟨rfl, rfl, rfl⟩ := hr
      refine rp_other s s.size rfl hs ⟨l0, ?_⟩ w
      rw [beq_eq_false_iff_ne, e0]
      exact fun e => hb (u8_eq e)
end Go.Proofs.Ytbdjcppkfihonaa
