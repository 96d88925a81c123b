/- Several texts in one. -/
import Derived.Test.YtoniipmgkoogbaaGl13
import Derived.Test.YtoniipmgkoogbaaCsRA
/- Any text as a set: a sign. -/
namespace Go.Proofs.Ytoniipmgkoogbaa
open Go.ChangeShapes Go.WideShapes Go.ChangeAt Go.RowKit
set_option linter.unusedSimpArgs false
set_option linter.unusedVariables false

def Cs.rdE : List UInt8 → UInt8 × Nat × Nat
  | [] => (0, 1, 3)
  | c :: _ => (c, 2, 0)
/-- The sign with which bytes begin: its byte, how many bytes it takes, the error. -/
def Cs.rdS : List UInt8 → UInt8 × Nat × Nat
  | [] => (0, 0, 3)
  | b :: r => if b = 93 ∨ b = 45 then (0, 0, 2) else if b = 37 then Cs.rdE r else (b, 1, 0)
theorem rdS_cons (b : UInt8) (r : List UInt8) : Cs.rdS (b :: r) = if b = 93 ∨ b = 45 then (0, 0, 2) else if b = 37 then Cs.rdE r else (b, 1, 0) := rfl
theorem rdS_le (l : List UInt8) : (Cs.rdS l).2.1 ≤ l.length ∧ (Cs.rdS l).2.1 ≤ 2 ∧ (Cs.rdS l).2.2 ≤ 3 ∧ ((Cs.rdS l).2.2 = 0 → 1 ≤ (Cs.rdS l).2.1) ∧ ((Cs.rdS l).2.2 ≠ 0 → (Cs.rdS l).1 = 0 ∧ (Cs.rdS l).2.2 = if (Cs.rdS l).2.1 = l.length then 3 else 2) := by
  match l with
  | [] => simp [Cs.rdS]
  | b :: r =>
    rw [rdS_cons]
    by_cases h1 : b = 93 ∨ b = 45
    · rw [if_pos h1]; simp
    · rw [if_neg h1]
      by_cases h2 : b = 37
      · rw [if_pos h2]
        cases r <;> simp [Cs.rdE]
      · rw [if_neg h2]; simp
theorem empty_of {s : ByteArray} (h : s.data.toList = []) : s = { data := #[] } := text_ext (by rw [h])
set_option maxRecDepth 20000 in
theorem cs_rdS (s : ByteArray) (l : List UInt8) (hs : s.size ≤ 1000000) (h : s.data.toList = l) (a : UInt8) (n e : Nat) (hr : Cs.rdS l = (a, n, e)) (w : World) :
    Calls Try.prog 50 #[.string s] w fun r w' => r = .returned (.tuple #[.int .u8 a.toNat, .int .i64 n, .int .i64 e]) ∧ w' = w := by
  match l, h, hr with
  | [], h, hr =>
    obtain rfl := empty_of h
    simp only [Cs.rdS, Prod.mk.injEq] at hr
    obtain ⟨rfl, rfl, rfl⟩ := hr
    clear h
    go_enter Try.func50, Try.ntmps50
    go_wp2
    go_ret3
    exact ⟨rfl, rfl⟩
  | b :: r, h, hr =>
    obtain ⟨l0, e0⟩ := at_of (i := 0) h rfl
    have he := ne_empty s l0
    by_cases h1 : b = 93 ∨ b = 45
    · rw [rdS_cons, if_pos h1] at hr
      simp only [Prod.mk.injEq] at hr
      obtain ⟨rfl, rfl, rfl⟩ := hr
      rcases h1 with rfl | rfl
      · have c0 : (s[0].toNat : Int) = 93 := by rw [e0]; rfl
        clear e0 h
        go_enter Try.func50, Try.ntmps50
        go_wp2
        go_ret3
        exact ⟨rfl, rfl⟩
      · have c0 : (s[0].toNat : Int) = 45 := by rw [e0]; rfl
        clear e0 h
        go_enter Try.func50, Try.ntmps50
        go_wp2
        go_ret3
        exact ⟨rfl, rfl⟩
    · rw [rdS_cons, if_neg h1] at hr
      by_cases h2 : b = 37
      · rw [if_pos h2] at hr
        subst h2
        have c0 : (s[0].toNat : Int) = 37 := by rw [e0]; rfl
        match r, h, hr with
        | [], h, hr =>
          have n1 : s.size = 1 := size_of h
          simp only [Cs.rdE, Prod.mk.injEq] at hr
          obtain ⟨rfl, rfl, rfl⟩ := hr
          clear e0 h h1
          go_enter Try.func50, Try.ntmps50
          go_wp2
          go_ret3
          exact ⟨rfl, rfl⟩
        | c :: r, h, hr =>
          obtain ⟨l1, e1⟩ := at_of (i := 1) h rfl
          have c1 : (s[1].toNat : Int) = c.toNat := by rw [e1]
          have n1 : ((s.size : Int) == 1) = false := by rw [beq_eq_false_iff_ne]; omega
          simp only [Cs.rdE, Prod.mk.injEq] at hr
          obtain ⟨rfl, rfl, rfl⟩ := hr
          clear e0 e1 h h1
          go_enter Try.func50, Try.ntmps50
          go_wp2
          go_ret3
          exact ⟨rfl, rfl⟩
      · rw [if_neg h2] at hr
        simp only [Prod.mk.injEq] at hr
        obtain ⟨rfl, rfl, rfl⟩ := hr
        have c0 : (s[0].toNat : Int) = b.toNat := by rw [e0]
        have k1 : ((b.toNat : Int) == 37) = false := by rw [beq_eq_false_iff_ne]; exact fun e => h2 (u8_eq e)
        have k4 : ((b.toNat : Int) != 37) = true := by rw [bne_iff_ne]; exact fun e => h2 (u8_eq e)
        have k2 : ((b.toNat : Int) == 93) = false := by rw [beq_eq_false_iff_ne]; exact fun e => h1 (Or.inl (u8_eq e))
        have k3 : ((b.toNat : Int) == 45) = false := by rw [beq_eq_false_iff_ne]; exact fun e => h1 (Or.inr (u8_eq e))
        clear e0 h h1 h2
        go_enter Try.func50, Try.ntmps50
        go_wp2
        go_ret3
        exact ⟨rfl, rfl⟩
end Go.Proofs.Ytoniipmgkoogbaa
/- Any text as a set: a part. -/
namespace Go.Proofs.Ytoniipmgkoogbaa
open Go.ChangeShapes Go.WideShapes Go.ChangeAt Go.RowKit
set_option linter.unusedSimpArgs false
set_option linter.unusedVariables false

/-- The second sign of a part. -/
def Cs.rdP2 (a : UInt8) (n : Nat) (y : UInt8 × Nat × Nat) : BitVec 256 × Nat × Nat :=
  if y.2.2 ≠ 0 then (0, n + (1 + y.2.1), y.2.2) else if y.1.toNat < a.toNat then (0, n + (1 + y.2.1) - 1, 12) else (Cs.span a.toNat y.1.toNat, n + (1 + y.2.1), 0)
/-- The part with which bytes begin: its set, how many bytes it takes, the error. -/
def Cs.rdP (l : List UInt8) : BitVec 256 × Nat × Nat :=
  if (Cs.rdS l).2.2 ≠ 0 then (0, (Cs.rdS l).2.1, (Cs.rdS l).2.2)
  else if (l.drop (Cs.rdS l).2.1).head? = some 45 then Cs.rdP2 (Cs.rdS l).1 (Cs.rdS l).2.1 (Cs.rdS (l.drop ((Cs.rdS l).2.1 + 1)))
  else (Cs.bitS (Cs.rdS l).1.toNat, (Cs.rdS l).2.1, 0)
set_option maxRecDepth 20000 in
set_option maxHeartbeats 2000000 in
theorem cs_rdP (s : ByteArray) (l : List UInt8) (hs : s.size ≤ 1000000) (h : s.data.toList = l) (X : BitVec 256) (n e : Nat) (hr : Cs.rdP l = (X, n, e)) (w : World) :
    Calls Try.prog 48 #[.string s] w fun r w' => r = .returned (.tuple #[Cs.sv X, .int .i64 n, .int .i64 e]) ∧ Below w.heap.size w w' := by
  obtain ⟨a, n1, e1, hS⟩ : ∃ a n e, Cs.rdS l = (a, n, e) := ⟨_, _, _, rfl⟩
  have hle := rdS_le l
  unfold Cs.rdP at hr
  rw [hS] at hr hle
  dsimp only at hr hle
  obtain ⟨k, hk⟩ : ∃ k, s.size = k := ⟨_, rfl⟩
  have hll : l.length = k := by rw [← h]; simpa using hk
  have hn1 : n1 ≤ k := by omega
  have hk6 : k ≤ 1000000 := by omega
  have hn2 := hle.2.1
  have HS := Lib.hid (And.intro hs (And.intro h hS))
  by_cases he1 : e1 = 0
  · subst he1
    rw [if_neg (by simp)] at hr
    by_cases hd : (l.drop n1).head? = some 45
    · rw [if_pos hd] at hr
      obtain ⟨b, m, f, hT⟩ : ∃ a n e, Cs.rdS (l.drop (n1 + 1)) = (a, n, e) := ⟨_, _, _, rfl⟩
      have hle2 := rdS_le (l.drop (n1 + 1))
      rw [hT] at hr hle2
      have hd2 : l[n1]? = some 45 := by rw [← List.head?_drop]; exact hd
      obtain ⟨ln, en⟩ := at_of (i := n1) h hd2
      have hlt : n1 < k := by omega
      obtain ⟨u, hu⟩ : ∃ u, s.extract (n1 + 1) k = u := ⟨_, rfl⟩
      have HU : Hid (u.data.toList = l.drop (n1 + 1) ∧ u.size ≤ 1000000 ∧ Cs.rdS (l.drop (n1 + 1)) = (b, m, f)) := Lib.hid (by
        have e := ext_drop hk hu
        rw [h] at e
        exact ⟨e, by rw [size_of e, List.length_drop]; omega, hT⟩)
      have n0 : ((n1 : Int) == (k : Int)) = false := by rw [beq_eq_false_iff_ne]; omega
      have cb : (s[n1].toNat : Int) = 45 := by rw [en]; rfl
      have hm2 : m ≤ 2 := hle2.2.1
      have w1 : IntKind.i64.wrap ((n1 : Int) + 1) = (n1 : Int) + 1 := IntWalk.i64_in _ (by omega)
      have w2 : IntKind.i64.wrap (1 + (m : Int)) = 1 + (m : Int) := IntWalk.i64_in _ (by omega)
      have w3 : IntKind.i64.wrap ((n1 : Int) + (1 + (m : Int))) = (n1 : Int) + (1 + (m : Int)) := IntWalk.i64_in _ (by omega)
      unfold Cs.rdP2 at hr
      dsimp only at hr
      by_cases hf : f = 0
      · subst hf
        rw [if_neg (by simp)] at hr
        by_cases hba : b.toNat < a.toNat
        · rw [if_pos hba] at hr
          simp only [Prod.mk.injEq] at hr
          obtain ⟨rfl, hn, rfl⟩ := hr
          have HN : Hid ((n : Int) = (n1 : Int) + (1 + (m : Int)) - 1) := Lib.hid (by omega)
          have w4 : IntKind.i64.wrap ((n1 : Int) + (1 + (m : Int)) - 1) = (n1 : Int) + (1 + (m : Int)) - 1 := IntWalk.i64_in _ (by omega)
          have hba2 : (b.toNat : Int) < a.toNat := by omega
          clear hle hle2 hn en hd hd2 hll h hS hT hs hba
          have hc : Hid (SB (w.alloc (.cells #[.int .u64 0, .int .u64 0, .int .u64 0, .int .u64 0] 67)) w.heap.size 0 ∧ Below w.heap.size w (w.alloc (.cells #[.int .u64 0, .int .u64 0, .int .u64 0, .int .u64 0] 67))) := Lib.hid ⟨SB.zero w, (Below.refl _ _).alloc (Nat.le_refl _) _⟩
          go_enter Try.func48, Try.ntmps48
          go_upto_region 1 with fail
          revert hc
          generalize w.alloc (.cells #[.int .u64 0, .int .u64 0, .int .u64 0, .int .u64 0] 67) = W
          intro hc
          have d0 := hc.out.1.at (i := 0) (by decide)
          have d1 := hc.out.1.at (i := 1) (by decide)
          have d2 := hc.out.1.at (i := 2) (by decide)
          have d3 := hc.out.1.at (i := 3) (by decide)
          have df0 := hc.out.1.free 0
          have df1 := hc.out.1.free 1
          have df2 := hc.out.1.free 2
          have df3 := hc.out.1.free 3
          go_wp2_with (first
            | (go_at_call 50; with_reducible refine (cs_rdS s l HS.out.1 HS.out.2.1 a n1 0 HS.out.2.2 _).mono ?_; rintro e W1 ⟨rfl, rfl⟩)
            | (go_at_call 50; with_reducible refine (cs_rdS u (l.drop (n1 + 1)) HU.out.2.1 HU.out.1 b m 0 HU.out.2.2 _).mono ?_; rintro e W1 ⟨rfl, rfl⟩))
          have hr := Lib.hid (show SB ((((W1.setCell ⟨w.heap.size, 0, none⟩ (.int .u64 0)).setCell ⟨w.heap.size, 1, none⟩ (.int .u64 0)).setCell ⟨w.heap.size, 2, none⟩ (.int .u64 0)).setCell ⟨w.heap.size, 3, none⟩ (.int .u64 0)) w.heap.size 0 ∧ Below w.heap.size w ((((W1.setCell ⟨w.heap.size, 0, none⟩ (.int .u64 0)).setCell ⟨w.heap.size, 1, none⟩ (.int .u64 0)).setCell ⟨w.heap.size, 2, none⟩ (.int .u64 0)).setCell ⟨w.heap.size, 3, none⟩ (.int .u64 0)) from hc.out.1.res hc.out.2 (Nat.le_refl _) 0)
          clear d0 d1 d2 d3 df0 df1 df2 df3 hc
          revert hr
          generalize (((W1.setCell ⟨w.heap.size, 0, none⟩ (.int .u64 0)).setCell ⟨w.heap.size, 1, none⟩ (.int .u64 0)).setCell ⟨w.heap.size, 2, none⟩ (.int .u64 0)).setCell ⟨w.heap.size, 3, none⟩ (.int .u64 0) = W9
          intro hr
          have c0 := hr.out.1.at (i := 0) (by decide)
          have c1 := hr.out.1.at (i := 1) (by decide)
          have c2 := hr.out.1.at (i := 2) (by decide)
          have c3 := hr.out.1.at (i := 3) (by decide)
          refine bodyPost_ret (v := .tuple #[.agg #[.int .u64 (Cs.wd 0 0), .int .u64 (Cs.wd 0 1), .int .u64 (Cs.wd 0 2), .int .u64 (Cs.wd 0 3)], .int .i64 ((n1 : Int) + (1 + (m : Int)) - 1), .int .i64 12]) (by simp [results, Try.results48, go_sem, c0, c1, c2, c3]) rfl ?_
          exact ⟨by rw [HN.out]; rfl, hr.out.2⟩
        · rw [if_neg hba] at hr
          simp only [Prod.mk.injEq] at hr
          obtain ⟨hX, hn, rfl⟩ := hr
          have HX := Lib.hid hX
          have HN : Hid ((n : Int) = (n1 : Int) + (1 + (m : Int))) := Lib.hid (by omega)
          have hba2 : ¬ (b.toNat : Int) < a.toNat := by omega
          clear hle hle2 hn en hd hd2 hll h hS hT hs hba hX
          have hc : Hid (SB (w.alloc (.cells #[.int .u64 0, .int .u64 0, .int .u64 0, .int .u64 0] 67)) w.heap.size 0 ∧ Below w.heap.size w (w.alloc (.cells #[.int .u64 0, .int .u64 0, .int .u64 0, .int .u64 0] 67))) := Lib.hid ⟨SB.zero w, (Below.refl _ _).alloc (Nat.le_refl _) _⟩
          go_enter Try.func48, Try.ntmps48
          go_upto_region 1 with fail
          revert hc
          generalize w.alloc (.cells #[.int .u64 0, .int .u64 0, .int .u64 0, .int .u64 0] 67) = W
          intro hc
          have d0 := hc.out.1.at (i := 0) (by decide)
          have d1 := hc.out.1.at (i := 1) (by decide)
          have d2 := hc.out.1.at (i := 2) (by decide)
          have d3 := hc.out.1.at (i := 3) (by decide)
          have df0 := hc.out.1.free 0
          have df1 := hc.out.1.free 1
          have df2 := hc.out.1.free 2
          have df3 := hc.out.1.free 3
          go_wp2_with (first
            | (go_at_call 50; with_reducible refine (cs_rdS s l HS.out.1 HS.out.2.1 a n1 0 HS.out.2.2 _).mono ?_; rintro e W1 ⟨rfl, rfl⟩)
            | (go_at_call 50; with_reducible refine (cs_rdS u (l.drop (n1 + 1)) HU.out.2.1 HU.out.1 b m 0 HU.out.2.2 _).mono ?_; rintro e W1 ⟨rfl, rfl⟩)
            | (go_at_call 51; refine (cs_span a.toNat b.toNat a.toNat_lt b.toNat_lt _).mono ?_; rintro e W2 ⟨rfl, hb2⟩; rw [HX.out]; unfold Cs.sv; have HC : Hid (SB W2 w.heap.size 0 ∧ Below w.heap.size w W2) := Lib.hid ⟨hc.out.1.below hb2, hc.out.2.trans (hb2.mono hc.out.2.size)⟩; clear hb2 d0 d1 d2 d3 df0 df1 df2 df3 ; have d0 := HC.out.1.at (i := 0) (by decide); have d1 := HC.out.1.at (i := 1) (by decide); have d2 := HC.out.1.at (i := 2) (by decide); have d3 := HC.out.1.at (i := 3) (by decide); have df0 := HC.out.1.free 0; have df1 := HC.out.1.free 1; have df2 := HC.out.1.free 2; have df3 := HC.out.1.free 3))
          have hr := Lib.hid (HC.out.1.res HC.out.2 (Nat.le_refl _) X)
          clear d0 d1 d2 d3 df0 df1 df2 df3 HC
          revert hr
          generalize (((W2.setCell ⟨w.heap.size, 0, none⟩ (.int .u64 (Cs.wd X 0))).setCell ⟨w.heap.size, 1, none⟩ (.int .u64 (Cs.wd X 1))).setCell ⟨w.heap.size, 2, none⟩ (.int .u64 (Cs.wd X 2))).setCell ⟨w.heap.size, 3, none⟩ (.int .u64 (Cs.wd X 3)) = W9
          intro hr
          have c0 := hr.out.1.at (i := 0) (by decide)
          have c1 := hr.out.1.at (i := 1) (by decide)
          have c2 := hr.out.1.at (i := 2) (by decide)
          have c3 := hr.out.1.at (i := 3) (by decide)
          refine bodyPost_ret (v := .tuple #[.agg #[.int .u64 (Cs.wd X 0), .int .u64 (Cs.wd X 1), .int .u64 (Cs.wd X 2), .int .u64 (Cs.wd X 3)], .int .i64 ((n1 : Int) + (1 + (m : Int))), .int .i64 0]) (by simp [results, Try.results48, go_sem, c0, c1, c2, c3]) rfl ?_
          exact ⟨by rw [HN.out]; rfl, hr.out.2⟩
      · rw [if_pos hf] at hr
        simp only [Prod.mk.injEq] at hr
        obtain ⟨rfl, hn, rfl⟩ := hr
        have HN : Hid ((n : Int) = (n1 : Int) + (1 + (m : Int))) := Lib.hid (by omega)
        have kf : ((f : Int) != 0) = true := by rw [bne_iff_ne]; omega
        clear hle hle2 hn en hd hd2 hll h hS hT hs hf
        have hc : Hid (SB (w.alloc (.cells #[.int .u64 0, .int .u64 0, .int .u64 0, .int .u64 0] 67)) w.heap.size 0 ∧ Below w.heap.size w (w.alloc (.cells #[.int .u64 0, .int .u64 0, .int .u64 0, .int .u64 0] 67))) := Lib.hid ⟨SB.zero w, (Below.refl _ _).alloc (Nat.le_refl _) _⟩
        go_enter Try.func48, Try.ntmps48
        go_upto_region 1 with fail
        revert hc
        generalize w.alloc (.cells #[.int .u64 0, .int .u64 0, .int .u64 0, .int .u64 0] 67) = W
        intro hc
        have d0 := hc.out.1.at (i := 0) (by decide)
        have d1 := hc.out.1.at (i := 1) (by decide)
        have d2 := hc.out.1.at (i := 2) (by decide)
        have d3 := hc.out.1.at (i := 3) (by decide)
        have df0 := hc.out.1.free 0
        have df1 := hc.out.1.free 1
        have df2 := hc.out.1.free 2
        have df3 := hc.out.1.free 3
        go_wp2_with (first
          | (go_at_call 50; with_reducible refine (cs_rdS s l HS.out.1 HS.out.2.1 a n1 0 HS.out.2.2 _).mono ?_; rintro e W1 ⟨rfl, rfl⟩)
          | (go_at_call 50; with_reducible refine (cs_rdS u (l.drop (n1 + 1)) HU.out.2.1 HU.out.1 b m f HU.out.2.2 _).mono ?_; rintro e W1 ⟨rfl, rfl⟩))
        have hr := Lib.hid (show SB ((((W1.setCell ⟨w.heap.size, 0, none⟩ (.int .u64 0)).setCell ⟨w.heap.size, 1, none⟩ (.int .u64 0)).setCell ⟨w.heap.size, 2, none⟩ (.int .u64 0)).setCell ⟨w.heap.size, 3, none⟩ (.int .u64 0)) w.heap.size 0 ∧ Below w.heap.size w ((((W1.setCell ⟨w.heap.size, 0, none⟩ (.int .u64 0)).setCell ⟨w.heap.size, 1, none⟩ (.int .u64 0)).setCell ⟨w.heap.size, 2, none⟩ (.int .u64 0)).setCell ⟨w.heap.size, 3, none⟩ (.int .u64 0)) from hc.out.1.res hc.out.2 (Nat.le_refl _) 0)
        clear d0 d1 d2 d3 df0 df1 df2 df3 hc
        revert hr
        generalize (((W1.setCell ⟨w.heap.size, 0, none⟩ (.int .u64 0)).setCell ⟨w.heap.size, 1, none⟩ (.int .u64 0)).setCell ⟨w.heap.size, 2, none⟩ (.int .u64 0)).setCell ⟨w.heap.size, 3, none⟩ (.int .u64 0) = W9
        intro hr
        have c0 := hr.out.1.at (i := 0) (by decide)
        have c1 := hr.out.1.at (i := 1) (by decide)
        have c2 := hr.out.1.at (i := 2) (by decide)
        have c3 := hr.out.1.at (i := 3) (by decide)
        refine bodyPost_ret (v := .tuple #[.agg #[.int .u64 (Cs.wd 0 0), .int .u64 (Cs.wd 0 1), .int .u64 (Cs.wd 0 2), .int .u64 (Cs.wd 0 3)], .int .i64 ((n1 : Int) + (1 + (m : Int))), .int .i64 f]) (by simp [results, Try.results48, go_sem, c0, c1, c2, c3]) rfl ?_
        exact ⟨by rw [HN.out]; rfl, hr.out.2⟩
    · rw [if_neg hd] at hr
      simp only [Prod.mk.injEq] at hr
      obtain ⟨hX, rfl, rfl⟩ := hr
      have HX := Lib.hid hX
      by_cases hnk : n1 = k
      · subst hnk
        clear hle hd hll h hS hs hX hn1
        have hc : Hid (SB (w.alloc (.cells #[.int .u64 0, .int .u64 0, .int .u64 0, .int .u64 0] 67)) w.heap.size 0 ∧ Below w.heap.size w (w.alloc (.cells #[.int .u64 0, .int .u64 0, .int .u64 0, .int .u64 0] 67))) := Lib.hid ⟨SB.zero w, (Below.refl _ _).alloc (Nat.le_refl _) _⟩
        go_enter Try.func48, Try.ntmps48
        go_upto_region 1 with fail
        revert hc
        generalize w.alloc (.cells #[.int .u64 0, .int .u64 0, .int .u64 0, .int .u64 0] 67) = W
        intro hc
        have d0 := hc.out.1.at (i := 0) (by decide)
        have d1 := hc.out.1.at (i := 1) (by decide)
        have d2 := hc.out.1.at (i := 2) (by decide)
        have d3 := hc.out.1.at (i := 3) (by decide)
        have df0 := hc.out.1.free 0
        have df1 := hc.out.1.free 1
        have df2 := hc.out.1.free 2
        have df3 := hc.out.1.free 3
        go_wp2_with (first
          | (go_at_call 50; with_reducible refine (cs_rdS s l HS.out.1 HS.out.2.1 a n1 0 HS.out.2.2 _).mono ?_; rintro e W1 ⟨rfl, rfl⟩)
          | (go_at_call 46; refine (cs_with0 a _).mono ?_; rintro e W2 ⟨rfl, hb2⟩; rw [HX.out]; unfold Cs.sv; have HC : Hid (SB W2 w.heap.size 0 ∧ Below w.heap.size w W2) := Lib.hid ⟨hc.out.1.below hb2, hc.out.2.trans (hb2.mono hc.out.2.size)⟩; clear hb2 d0 d1 d2 d3 df0 df1 df2 df3 ; have d0 := HC.out.1.at (i := 0) (by decide); have d1 := HC.out.1.at (i := 1) (by decide); have d2 := HC.out.1.at (i := 2) (by decide); have d3 := HC.out.1.at (i := 3) (by decide); have df0 := HC.out.1.free 0; have df1 := HC.out.1.free 1; have df2 := HC.out.1.free 2; have df3 := HC.out.1.free 3))
        have hr := Lib.hid (HC.out.1.res HC.out.2 (Nat.le_refl _) X)
        clear d0 d1 d2 d3 df0 df1 df2 df3 HC
        revert hr
        generalize (((W2.setCell ⟨w.heap.size, 0, none⟩ (.int .u64 (Cs.wd X 0))).setCell ⟨w.heap.size, 1, none⟩ (.int .u64 (Cs.wd X 1))).setCell ⟨w.heap.size, 2, none⟩ (.int .u64 (Cs.wd X 2))).setCell ⟨w.heap.size, 3, none⟩ (.int .u64 (Cs.wd X 3)) = W9
        intro hr
        have c0 := hr.out.1.at (i := 0) (by decide)
        have c1 := hr.out.1.at (i := 1) (by decide)
        have c2 := hr.out.1.at (i := 2) (by decide)
        have c3 := hr.out.1.at (i := 3) (by decide)
        refine bodyPost_ret (v := .tuple #[.agg #[.int .u64 (Cs.wd X 0), .int .u64 (Cs.wd X 1), .int .u64 (Cs.wd X 2), .int .u64 (Cs.wd X 3)], .int .i64 n1, .int .i64 0]) (by simp [results, Try.results48, go_sem, c0, c1, c2, c3]) rfl ?_
        exact ⟨rfl, hr.out.2⟩
      · have hlt : n1 < k := by omega
        have hlt2 : n1 < s.size := by omega
        have n0 : ((n1 : Int) == (k : Int)) = false := by rw [beq_eq_false_iff_ne]; omega
        have cb : ((s[n1].toNat : Int) != 45) = true := by
          rw [bne_iff_ne]
          intro e
          apply hd
          rw [List.head?_drop, ← h, byte_at hlt2, u8_eq (c := s[n1]) (d := 45) e]
        clear hle hd hll h hS hs hX hn1 hnk
        have hc : Hid (SB (w.alloc (.cells #[.int .u64 0, .int .u64 0, .int .u64 0, .int .u64 0] 67)) w.heap.size 0 ∧ Below w.heap.size w (w.alloc (.cells #[.int .u64 0, .int .u64 0, .int .u64 0, .int .u64 0] 67))) := Lib.hid ⟨SB.zero w, (Below.refl _ _).alloc (Nat.le_refl _) _⟩
        go_enter Try.func48, Try.ntmps48
        go_upto_region 1 with fail
        revert hc
        generalize w.alloc (.cells #[.int .u64 0, .int .u64 0, .int .u64 0, .int .u64 0] 67) = W
        intro hc
        have d0 := hc.out.1.at (i := 0) (by decide)
        have d1 := hc.out.1.at (i := 1) (by decide)
        have d2 := hc.out.1.at (i := 2) (by decide)
        have d3 := hc.out.1.at (i := 3) (by decide)
        have df0 := hc.out.1.free 0
        have df1 := hc.out.1.free 1
        have df2 := hc.out.1.free 2
        have df3 := hc.out.1.free 3
        go_wp2_with (first
          | (go_at_call 50; with_reducible refine (cs_rdS s l HS.out.1 HS.out.2.1 a n1 0 HS.out.2.2 _).mono ?_; rintro e W1 ⟨rfl, rfl⟩)
          | (go_at_call 46; refine (cs_with0 a _).mono ?_; rintro e W2 ⟨rfl, hb2⟩; rw [HX.out]; unfold Cs.sv; have HC : Hid (SB W2 w.heap.size 0 ∧ Below w.heap.size w W2) := Lib.hid ⟨hc.out.1.below hb2, hc.out.2.trans (hb2.mono hc.out.2.size)⟩; clear hb2 d0 d1 d2 d3 df0 df1 df2 df3 ; have d0 := HC.out.1.at (i := 0) (by decide); have d1 := HC.out.1.at (i := 1) (by decide); have d2 := HC.out.1.at (i := 2) (by decide); have d3 := HC.out.1.at (i := 3) (by decide); have df0 := HC.out.1.free 0; have df1 := HC.out.1.free 1; have df2 := HC.out.1.free 2; have df3 := HC.out.1.free 3))
        have hr := Lib.hid (HC.out.1.res HC.out.2 (Nat.le_refl _) X)
        clear d0 d1 d2 d3 df0 df1 df2 df3 HC
        revert hr
        generalize (((W2.setCell ⟨w.heap.size, 0, none⟩ (.int .u64 (Cs.wd X 0))).setCell ⟨w.heap.size, 1, none⟩ (.int .u64 (Cs.wd X 1))).setCell ⟨w.heap.size, 2, none⟩ (.int .u64 (Cs.wd X 2))).setCell ⟨w.heap.size, 3, none⟩ (.int .u64 (Cs.wd X 3)) = W9
        intro hr
        have c0 := hr.out.1.at (i := 0) (by decide)
        have c1 := hr.out.1.at (i := 1) (by decide)
        have c2 := hr.out.1.at (i := 2) (by decide)
        have c3 := hr.out.1.at (i := 3) (by decide)
        refine bodyPost_ret (v := .tuple #[.agg #[.int .u64 (Cs.wd X 0), .int .u64 (Cs.wd X 1), .int .u64 (Cs.wd X 2), .int .u64 (Cs.wd X 3)], .int .i64 n1, .int .i64 0]) (by simp [results, Try.results48, go_sem, c0, c1, c2, c3]) rfl ?_
        exact ⟨rfl, hr.out.2⟩
  · rw [if_pos he1] at hr
    simp only [Prod.mk.injEq] at hr
    obtain ⟨rfl, rfl, rfl⟩ := hr
    have kf : ((e1 : Int) != 0) = true := by rw [bne_iff_ne]; omega
    clear hle hll h hS hs he1
    have hc : Hid (SB (w.alloc (.cells #[.int .u64 0, .int .u64 0, .int .u64 0, .int .u64 0] 67)) w.heap.size 0 ∧ Below w.heap.size w (w.alloc (.cells #[.int .u64 0, .int .u64 0, .int .u64 0, .int .u64 0] 67))) := Lib.hid ⟨SB.zero w, (Below.refl _ _).alloc (Nat.le_refl _) _⟩
    go_enter Try.func48, Try.ntmps48
    go_upto_region 1 with fail
    revert hc
    generalize w.alloc (.cells #[.int .u64 0, .int .u64 0, .int .u64 0, .int .u64 0] 67) = W
    intro hc
    have d0 := hc.out.1.at (i := 0) (by decide)
    have d1 := hc.out.1.at (i := 1) (by decide)
    have d2 := hc.out.1.at (i := 2) (by decide)
    have d3 := hc.out.1.at (i := 3) (by decide)
    have df0 := hc.out.1.free 0
    have df1 := hc.out.1.free 1
    have df2 := hc.out.1.free 2
    have df3 := hc.out.1.free 3
    go_wp2_with (go_at_call 50; with_reducible refine (cs_rdS s l HS.out.1 HS.out.2.1 a n1 e1 HS.out.2.2 _).mono ?_; rintro e W1 ⟨rfl, rfl⟩)
    have hr := Lib.hid (show SB ((((W1.setCell ⟨w.heap.size, 0, none⟩ (.int .u64 0)).setCell ⟨w.heap.size, 1, none⟩ (.int .u64 0)).setCell ⟨w.heap.size, 2, none⟩ (.int .u64 0)).setCell ⟨w.heap.size, 3, none⟩ (.int .u64 0)) w.heap.size 0 ∧ Below w.heap.size w ((((W1.setCell ⟨w.heap.size, 0, none⟩ (.int .u64 0)).setCell ⟨w.heap.size, 1, none⟩ (.int .u64 0)).setCell ⟨w.heap.size, 2, none⟩ (.int .u64 0)).setCell ⟨w.heap.size, 3, none⟩ (.int .u64 0)) from hc.out.1.res hc.out.2 (Nat.le_refl _) 0)
    clear d0 d1 d2 d3 df0 df1 df2 df3 hc
    revert hr
    generalize (((W1.setCell ⟨w.heap.size, 0, none⟩ (.int .u64 0)).setCell ⟨w.heap.size, 1, none⟩ (.int .u64 0)).setCell ⟨w.heap.size, 2, none⟩ (.int .u64 0)).setCell ⟨w.heap.size, 3, none⟩ (.int .u64 0) = W9
    intro hr
    have c0 := hr.out.1.at (i := 0) (by decide)
    have c1 := hr.out.1.at (i := 1) (by decide)
    have c2 := hr.out.1.at (i := 2) (by decide)
    have c3 := hr.out.1.at (i := 3) (by decide)
    refine bodyPost_ret (v := .tuple #[.agg #[.int .u64 (Cs.wd 0 0), .int .u64 (Cs.wd 0 1), .int .u64 (Cs.wd 0 2), .int .u64 (Cs.wd 0 3)], .int .i64 n1, .int .i64 e1]) (by simp [results, Try.results48, go_sem, c0, c1, c2, c3]) rfl ?_
    exact ⟨rfl, hr.out.2⟩
end Go.Proofs.Ytoniipmgkoogbaa
/- Any text as a set: its parts. -/
namespace Go.Proofs.Ytoniipmgkoogbaa
open Go.ChangeShapes Go.WideShapes Go.ChangeAt Go.RowKit
set_option linter.unusedSimpArgs false
set_option linter.unusedVariables false

theorem rdP_le (l : List UInt8) : (Cs.rdP l).2.1 ≤ l.length ∧ ((Cs.rdP l).2.2 = 0 → 1 ≤ (Cs.rdP l).2.1) := by
  have a := rdS_le l
  obtain ⟨x, n, e, hS⟩ : ∃ x n e, Cs.rdS l = (x, n, e) := ⟨_, _, _, rfl⟩
  unfold Cs.rdP
  rw [hS] at a ⊢
  dsimp only at a ⊢
  by_cases he : e = 0
  · subst he
    rw [if_neg (by simp)]
    have a1 := a.2.2.2.1 rfl
    by_cases hd : (l.drop n).head? = some 45
    · rw [if_pos hd]
      have b := rdS_le (l.drop (n + 1))
      obtain ⟨y, m, f, hT⟩ : ∃ x' n' e', Cs.rdS (l.drop (n + 1)) = (x', n', e') := ⟨_, _, _, rfl⟩
      rw [hT] at b ⊢
      rw [List.length_drop] at b
      have hlt : n < l.length := by
        rw [List.head?_drop] at hd
        exact (List.getElem?_eq_some_iff.1 hd).1
      unfold Cs.rdP2
      dsimp only at b ⊢
      by_cases hf : f = 0
      · subst hf
        rw [if_neg (by simp)]
        by_cases hc : y.toNat < x.toNat
        · rw [if_pos hc]; exact ⟨by simp only; omega, fun h => by simp at h⟩
        · rw [if_neg hc]; exact ⟨by simp only; omega, fun _ => by simp only; omega⟩
      · rw [if_pos hf]; exact ⟨by simp only; omega, fun h => absurd h hf⟩
    · rw [if_neg hd]; exact ⟨a.1, fun _ => a1⟩
  · rw [if_pos he]; exact ⟨a.1, fun h => absurd h he⟩
/-- The parts of a set, and the sign behind them: the set, how many bytes they take, the error. -/
def Cs.rdL : Nat → List UInt8 → Nat → BitVec 256 → BitVec 256 × Nat × Nat
  | 0, _, k, _ => (0, k, 0)
  | f + 1, l, k, X => if 0 < k ∧ l[k]? = some 93 then (X, k + 1, 0) else if (Cs.rdP (l.drop k)).2.2 ≠ 0 then (0, k + (Cs.rdP (l.drop k)).2.1, (Cs.rdP (l.drop k)).2.2) else Cs.rdL f l (k + (Cs.rdP (l.drop k)).2.1) (X ||| (Cs.rdP (l.drop k)).1)
theorem rdL_succ (f : Nat) (l : List UInt8) (k : Nat) (X : BitVec 256) : Cs.rdL (f + 1) l k X = if 0 < k ∧ l[k]? = some 93 then (X, k + 1, 0) else if (Cs.rdP (l.drop k)).2.2 ≠ 0 then (0, k + (Cs.rdP (l.drop k)).2.1, (Cs.rdP (l.drop k)).2.2) else Cs.rdL f l (k + (Cs.rdP (l.drop k)).2.1) (X ||| (Cs.rdP (l.drop k)).1) := rfl
set_option maxRecDepth 20000 in
set_option maxHeartbeats 8000000 in
theorem cs_rdL (s : ByteArray) (l : List UInt8) (hs : s.size ≤ 1000000) (h : s.data.toList = l) (Z : BitVec 256) (n e : Nat) (hr : Cs.rdL (l.length + 1) l 0 0 = (Z, n, e)) (w : World) :
    Calls Try.prog 45 #[.string s] w fun r w' => r = .returned (.tuple #[Cs.sv Z, .int .i64 n, .int .i64 e]) ∧ Below w.heap.size w w' := by
  obtain ⟨N, hN⟩ : ∃ N, s.size = N := ⟨_, rfl⟩
  have hll : l.length = N := by rw [← h]; simpa using hN
  rw [hll] at hr
  have HS := Lib.hid (And.intro hs (And.intro h (And.intro hr (And.intro hll hN))))
  have hN6 : N ≤ 1000000 := by omega
  clear hr h hs hll
  have hc : Hid (SB ((w.alloc (.cells #[.int .u64 0, .int .u64 0, .int .u64 0, .int .u64 0] 67)).alloc (.cells #[.int .u64 0, .int .u64 0, .int .u64 0, .int .u64 0] 67)) w.heap.size 0 ∧ SB ((w.alloc (.cells #[.int .u64 0, .int .u64 0, .int .u64 0, .int .u64 0] 67)).alloc (.cells #[.int .u64 0, .int .u64 0, .int .u64 0, .int .u64 0] 67)) (w.heap.size + 1) 0 ∧ Below w.heap.size w ((w.alloc (.cells #[.int .u64 0, .int .u64 0, .int .u64 0, .int .u64 0] 67)).alloc (.cells #[.int .u64 0, .int .u64 0, .int .u64 0, .int .u64 0] 67))) :=
    Lib.hid ⟨(SB.zero w).alloc _, by have := SB.zero (w.alloc (.cells #[.int .u64 0, .int .u64 0, .int .u64 0, .int .u64 0] 67)); simpa using this, ((Below.refl _ _).alloc (Nat.le_refl _) _).alloc (by simp) _⟩
  go_enter Try.func45, Try.ntmps45
  go_upto_region 2 with fail
  revert hc
  generalize (w.alloc (.cells #[.int .u64 0, .int .u64 0, .int .u64 0, .int .u64 0] 67)).alloc (.cells #[.int .u64 0, .int .u64 0, .int .u64 0, .int .u64 0] 67) = W
  intro hc
  go_wp2
  go_loopw [6] (fun i wr => ∃ (k f : Nat) (X : BitVec 256), i = .int .i64 k ∧ k ≤ N ∧ N - k ≤ f ∧ Hid (Cs.rdL (f + 1) l k X = (Z, n, e)) ∧ Hid (SB wr w.heap.size 0 ∧ SB wr (w.heap.size + 1) X ∧ Below w.heap.size w wr)) (fun i _ => N - (intOf i).toNat)
  case atStart => exact ⟨0, N, 0, rfl, by omega, by omega, Lib.hid HS.out.2.2.1, Lib.hid hc.out⟩
  case round =>
    clear hc
    obtain ⟨k, f0, X, rfl, hk, hf0, HR, HB⟩ := hrel
    have j0 : (0 : Int) ≤ (k : Int) := by omega
    by_cases hend : 0 < k ∧ l[k]? = some 93
    · have hE := HR.out
      rw [rdL_succ, if_pos hend] at hE
      have HE : Hid (Z = X ∧ n = k + 1 ∧ e = 0) := Lib.hid (by simp only [Prod.mk.injEq] at hE; exact ⟨hE.1.symm, hE.2.1.symm, hE.2.2.symm⟩)
      obtain ⟨li, e1⟩ := at_of (i := k) HS.out.2.1 hend.2
      have c0 : (s[k].toNat : Int) = 93 := by rw [e1]; rfl
      have hkN : k < N := by omega
      have w1 : IntKind.i64.wrap ((k : Int) + 1) = (k : Int) + 1 := IntWalk.i64_in _ (by omega)
      have hk0 : (0 : Int) < (k : Int) := by omega
      have hkz : 0 < k := by omega
      have HC := HB
      clear e1 hE hend HB
      have x0 := HC.out.2.1.at (i := 0) (by decide)
      have x1 := HC.out.2.1.at (i := 1) (by decide)
      have x2 := HC.out.2.1.at (i := 2) (by decide)
      have x3 := HC.out.2.1.at (i := 3) (by decide)
      have d0 := HC.out.1.at (i := 0) (by decide)
      have d1 := HC.out.1.at (i := 1) (by decide)
      have d2 := HC.out.1.at (i := 2) (by decide)
      have d3 := HC.out.1.at (i := 3) (by decide)
      have df0 := HC.out.1.free 0
      have df1 := HC.out.1.free 1
      have df2 := HC.out.1.free 2
      have df3 := HC.out.1.free 3
      go_wp2
      have hr := Lib.hid (HC.out.1.res HC.out.2.2 (Nat.le_refl _) X)
      clear x0 x1 x2 x3 d0 d1 d2 d3 df0 df1 df2 df3 HC
      revert hr
      generalize (((wr.setCell ⟨w.heap.size, 0, none⟩ (.int .u64 (Cs.wd X 0))).setCell ⟨w.heap.size, 1, none⟩ (.int .u64 (Cs.wd X 1))).setCell ⟨w.heap.size, 2, none⟩ (.int .u64 (Cs.wd X 2))).setCell ⟨w.heap.size, 3, none⟩ (.int .u64 (Cs.wd X 3)) = W2
      intro hr
      have c0 := hr.out.1.at (i := 0) (by decide)
      have c1 := hr.out.1.at (i := 1) (by decide)
      have c2 := hr.out.1.at (i := 2) (by decide)
      have c3 := hr.out.1.at (i := 3) (by decide)
      refine bodyPost_ret (v := .tuple #[.agg #[.int .u64 (Cs.wd X 0), .int .u64 (Cs.wd X 1), .int .u64 (Cs.wd X 2), .int .u64 (Cs.wd X 3)], .int .i64 ((k : Int) + 1), .int .i64 0]) (by simp [results, Try.results45, go_sem, c0, c1, c2, c3]) rfl ?_
      rw [HE.out.1, HE.out.2.1, HE.out.2.2]
      exact ⟨by rw [Int.natCast_add]; rfl, hr.out.2⟩
    · have hR := HR.out
      rw [rdL_succ, if_neg hend] at hR
      have hle := rdP_le (l.drop k)
      obtain ⟨Y, j, q, hT⟩ : ∃ a n e, Cs.rdP (l.drop k) = (a, n, e) := ⟨_, _, _, rfl⟩
      rw [hT] at hR hle
      dsimp only at hR hle
      have h := HS.out.2.1
      have hs := HS.out.1
      have hll := HS.out.2.2.2.1
      rw [List.length_drop, hll] at hle
      obtain ⟨u, hu⟩ : ∃ u, s.extract k N = u := ⟨_, rfl⟩
      have HU : Hid (u.data.toList = l.drop k ∧ u.size ≤ 1000000 ∧ Cs.rdP (l.drop k) = (Y, j, q)) := Lib.hid (by
        have e := ext_drop hN hu
        rw [h] at e
        exact ⟨e, by rw [size_of e, List.length_drop]; omega, hT⟩)
      have hkj : k + j ≤ N := by omega
      have w1 : IntKind.i64.wrap ((k : Int) + j) = (k : Int) + j := IntWalk.i64_in _ (by omega)
      by_cases hkz : 0 < k
      · have hk0 : (0 : Int) < (k : Int) := by omega
        by_cases hkN : k < N
        · have hks : k < s.size := by omega
          have c0 : ((s[k].toNat : Int) == 93) = false := by
            rw [beq_eq_false_iff_ne]
            intro e
            exact hend ⟨hkz, by rw [← h, byte_at hks, u8_eq (c := s[k]) (d := 93) e]⟩
          clear hend
          by_cases hq : q = 0
          · subst hq
            rw [if_neg (by simp)] at hR
            have hj1 : 1 ≤ j := hle.2 rfl
            obtain ⟨f, rfl⟩ : ∃ f, f0 = f + 1 := ⟨f0 - 1, by omega⟩
            obtain ⟨X2, hX2⟩ : ∃ X2, X ||| Y = X2 := ⟨_, rfl⟩
            rw [hX2] at hR
            have HS2 := Lib.hid hX2
            have HR2 := Lib.hid hR
            clear hR hX2 hle hT h hs hll
            go_upto_region 6 with (go_at_call 48; refine (cs_rdP u (l.drop k) HU.out.2.1 HU.out.1 Y j 0 HU.out.2.2 _).mono ?_; rintro e W1 ⟨rfl, hb1⟩; unfold Cs.sv; have HB1 : Hid (SB W1 w.heap.size 0 ∧ SB W1 (w.heap.size + 1) X ∧ Below w.heap.size w W1) := Lib.hid ⟨HB.out.1.below hb1, HB.out.2.1.below hb1, HB.out.2.2.trans (hb1.mono HB.out.2.2.size)⟩; clear hb1)
            have HB2 : Hid (SB (W1.alloc (.cells #[.int .u64 (Cs.wd Y 0), .int .u64 (Cs.wd Y 1), .int .u64 (Cs.wd Y 2), .int .u64 (Cs.wd Y 3)] 67)) W1.heap.size Y ∧ SB (W1.alloc (.cells #[.int .u64 (Cs.wd Y 0), .int .u64 (Cs.wd Y 1), .int .u64 (Cs.wd Y 2), .int .u64 (Cs.wd Y 3)] 67)) w.heap.size 0 ∧ SB (W1.alloc (.cells #[.int .u64 (Cs.wd Y 0), .int .u64 (Cs.wd Y 1), .int .u64 (Cs.wd Y 2), .int .u64 (Cs.wd Y 3)] 67)) (w.heap.size + 1) X ∧ Below w.heap.size w (W1.alloc (.cells #[.int .u64 (Cs.wd Y 0), .int .u64 (Cs.wd Y 1), .int .u64 (Cs.wd Y 2), .int .u64 (Cs.wd Y 3)] 67))) := Lib.hid ⟨SB.new W1 Y, HB1.out.1.alloc _, HB1.out.2.1.alloc _, HB1.out.2.2.alloc HB1.out.2.2.size _⟩
            revert HB2
            generalize W1.alloc (.cells #[.int .u64 (Cs.wd Y 0), .int .u64 (Cs.wd Y 1), .int .u64 (Cs.wd Y 2), .int .u64 (Cs.wd Y 3)] 67) = V
            generalize W1.heap.size = D
            intro HB2
            have y0 := HB2.out.1.at (i := 0) (by decide)
            have y1 := HB2.out.1.at (i := 1) (by decide)
            have y2 := HB2.out.1.at (i := 2) (by decide)
            have y3 := HB2.out.1.at (i := 3) (by decide)
            have z0 := HB2.out.2.2.1.at (i := 0) (by decide)
            have z1 := HB2.out.2.2.1.at (i := 1) (by decide)
            have z2 := HB2.out.2.2.1.at (i := 2) (by decide)
            have z3 := HB2.out.2.2.1.at (i := 3) (by decide)
            go_wp2_with (go_at_call 49; rw [sv_def X, sv_def Y]; refine (cs_or X Y _).mono ?_; rintro e W5 ⟨rfl, hb5⟩; rw [HS2.out]; unfold Cs.sv; have HB5 : Hid (SB W5 w.heap.size 0 ∧ SB W5 (w.heap.size + 1) X ∧ Below w.heap.size w W5) := Lib.hid ⟨HB2.out.2.1.below hb5, HB2.out.2.2.1.below hb5, HB2.out.2.2.2.trans (hb5.mono HB2.out.2.2.2.size)⟩; clear hb5 y0 y1 y2 y3 z0 z1 z2 z3; have z0 := HB5.out.2.1.at (i := 0) (by decide); have zf0 := HB5.out.2.1.free 0; have z1 := HB5.out.2.1.at (i := 1) (by decide); have zf1 := HB5.out.2.1.free 1; have z2 := HB5.out.2.1.at (i := 2) (by decide); have zf2 := HB5.out.2.1.free 2; have z3 := HB5.out.2.1.at (i := 3) (by decide); have zf3 := HB5.out.2.1.free 3)
            have HN := Lib.hid (set4_two HB5.out.1 HB5.out.2.1 HB5.out.2.2 (by omega) (by omega) X2)
            refine ⟨?_, ?measure⟩
            case measure => simp [intOf]; omega
            first
              | exact ⟨k + j, f, X2, by go_num, by omega, by omega, HR2, HN⟩
              | exact ⟨k + j, f, X2, rfl, by omega, by omega, HR2, HN⟩
              | ((repeat apply Exists.intro); exact ⟨⟨k + j, f, X2, by go_num, by omega, by omega, HR2, HN⟩, rfl⟩)
          · rw [if_pos hq] at hR
            have HE : Hid (Z = 0 ∧ n = k + j ∧ e = q) := Lib.hid (by simp only [Prod.mk.injEq] at hR; exact ⟨hR.1.symm, hR.2.1.symm, hR.2.2.symm⟩)
            have kq : ((q : Int) != 0) = true := by rw [bne_iff_ne]; omega
            clear hR hle hT h hs hll hq
            go_upto_region 6 with (go_at_call 48; refine (cs_rdP u (l.drop k) HU.out.2.1 HU.out.1 Y j q HU.out.2.2 _).mono ?_; rintro e W1 ⟨rfl, hb1⟩; unfold Cs.sv; have HB1 : Hid (SB W1 w.heap.size 0 ∧ SB W1 (w.heap.size + 1) X ∧ Below w.heap.size w W1) := Lib.hid ⟨HB.out.1.below hb1, HB.out.2.1.below hb1, HB.out.2.2.trans (hb1.mono HB.out.2.2.size)⟩; clear hb1)
            have HB2 : Hid (SB (W1.alloc (.cells #[.int .u64 (Cs.wd Y 0), .int .u64 (Cs.wd Y 1), .int .u64 (Cs.wd Y 2), .int .u64 (Cs.wd Y 3)] 67)) W1.heap.size Y ∧ SB (W1.alloc (.cells #[.int .u64 (Cs.wd Y 0), .int .u64 (Cs.wd Y 1), .int .u64 (Cs.wd Y 2), .int .u64 (Cs.wd Y 3)] 67)) w.heap.size 0 ∧ SB (W1.alloc (.cells #[.int .u64 (Cs.wd Y 0), .int .u64 (Cs.wd Y 1), .int .u64 (Cs.wd Y 2), .int .u64 (Cs.wd Y 3)] 67)) (w.heap.size + 1) X ∧ Below w.heap.size w (W1.alloc (.cells #[.int .u64 (Cs.wd Y 0), .int .u64 (Cs.wd Y 1), .int .u64 (Cs.wd Y 2), .int .u64 (Cs.wd Y 3)] 67))) := Lib.hid ⟨SB.new W1 Y, HB1.out.1.alloc _, HB1.out.2.1.alloc _, HB1.out.2.2.alloc HB1.out.2.2.size _⟩
            revert HB2
            generalize W1.alloc (.cells #[.int .u64 (Cs.wd Y 0), .int .u64 (Cs.wd Y 1), .int .u64 (Cs.wd Y 2), .int .u64 (Cs.wd Y 3)] 67) = V
            generalize W1.heap.size = D
            intro HB2
            have d0 := HB2.out.2.1.at (i := 0) (by decide)
            have d1 := HB2.out.2.1.at (i := 1) (by decide)
            have d2 := HB2.out.2.1.at (i := 2) (by decide)
            have d3 := HB2.out.2.1.at (i := 3) (by decide)
            have df0 := HB2.out.2.1.free 0
            have df1 := HB2.out.2.1.free 1
            have df2 := HB2.out.2.1.free 2
            have df3 := HB2.out.2.1.free 3
            go_wp2
            have hr := Lib.hid (show SB ((((V.setCell ⟨w.heap.size, 0, none⟩ (.int .u64 0)).setCell ⟨w.heap.size, 1, none⟩ (.int .u64 0)).setCell ⟨w.heap.size, 2, none⟩ (.int .u64 0)).setCell ⟨w.heap.size, 3, none⟩ (.int .u64 0)) w.heap.size 0 ∧ Below w.heap.size w ((((V.setCell ⟨w.heap.size, 0, none⟩ (.int .u64 0)).setCell ⟨w.heap.size, 1, none⟩ (.int .u64 0)).setCell ⟨w.heap.size, 2, none⟩ (.int .u64 0)).setCell ⟨w.heap.size, 3, none⟩ (.int .u64 0)) from HB2.out.2.1.res HB2.out.2.2.2 (Nat.le_refl _) 0)
            clear d0 d1 d2 d3 df0 df1 df2 df3 HB2
            revert hr
            generalize (((V.setCell ⟨w.heap.size, 0, none⟩ (.int .u64 0)).setCell ⟨w.heap.size, 1, none⟩ (.int .u64 0)).setCell ⟨w.heap.size, 2, none⟩ (.int .u64 0)).setCell ⟨w.heap.size, 3, none⟩ (.int .u64 0) = W9
            intro hr
            have c0 := hr.out.1.at (i := 0) (by decide)
            have c1 := hr.out.1.at (i := 1) (by decide)
            have c2 := hr.out.1.at (i := 2) (by decide)
            have c3 := hr.out.1.at (i := 3) (by decide)
            refine bodyPost_ret (v := .tuple #[.agg #[.int .u64 (Cs.wd 0 0), .int .u64 (Cs.wd 0 1), .int .u64 (Cs.wd 0 2), .int .u64 (Cs.wd 0 3)], .int .i64 ((k : Int) + j), .int .i64 q]) (by simp [results, Try.results45, go_sem, c0, c1, c2, c3]) rfl ?_
            rw [HE.out.1, HE.out.2.1, HE.out.2.2]
            exact ⟨by rw [Int.natCast_add]; rfl, hr.out.2⟩
        · obtain rfl : k = N := by omega
          have hue : u = ByteArray.empty := empty_of (by rw [HU.out.1]; exact List.drop_eq_nil_of_le (by omega))
          clear hend hu
          subst hue
          by_cases hq : q = 0
          · subst hq
            rw [if_neg (by simp)] at hR
            have hj1 : 1 ≤ j := hle.2 rfl
            obtain ⟨f, rfl⟩ : ∃ f, f0 = f + 1 := ⟨f0 - 1, by omega⟩
            obtain ⟨X2, hX2⟩ : ∃ X2, X ||| Y = X2 := ⟨_, rfl⟩
            rw [hX2] at hR
            have HS2 := Lib.hid hX2
            have HR2 := Lib.hid hR
            clear hR hX2 hle hT h hs hll
            exfalso; omega
          · rw [if_pos hq] at hR
            have HE : Hid (Z = 0 ∧ n = k + j ∧ e = q) := Lib.hid (by simp only [Prod.mk.injEq] at hR; exact ⟨hR.1.symm, hR.2.1.symm, hR.2.2.symm⟩)
            have kq : ((q : Int) != 0) = true := by rw [bne_iff_ne]; omega
            clear hR hle hT h hs hll hq
            go_upto_region 6 with (go_at_call 48; refine (cs_rdP ByteArray.empty (l.drop k) HU.out.2.1 HU.out.1 Y j q HU.out.2.2 _).mono ?_; rintro e W1 ⟨rfl, hb1⟩; unfold Cs.sv; have HB1 : Hid (SB W1 w.heap.size 0 ∧ SB W1 (w.heap.size + 1) X ∧ Below w.heap.size w W1) := Lib.hid ⟨HB.out.1.below hb1, HB.out.2.1.below hb1, HB.out.2.2.trans (hb1.mono HB.out.2.2.size)⟩; clear hb1)
            have HB2 : Hid (SB (W1.alloc (.cells #[.int .u64 (Cs.wd Y 0), .int .u64 (Cs.wd Y 1), .int .u64 (Cs.wd Y 2), .int .u64 (Cs.wd Y 3)] 67)) W1.heap.size Y ∧ SB (W1.alloc (.cells #[.int .u64 (Cs.wd Y 0), .int .u64 (Cs.wd Y 1), .int .u64 (Cs.wd Y 2), .int .u64 (Cs.wd Y 3)] 67)) w.heap.size 0 ∧ SB (W1.alloc (.cells #[.int .u64 (Cs.wd Y 0), .int .u64 (Cs.wd Y 1), .int .u64 (Cs.wd Y 2), .int .u64 (Cs.wd Y 3)] 67)) (w.heap.size + 1) X ∧ Below w.heap.size w (W1.alloc (.cells #[.int .u64 (Cs.wd Y 0), .int .u64 (Cs.wd Y 1), .int .u64 (Cs.wd Y 2), .int .u64 (Cs.wd Y 3)] 67))) := Lib.hid ⟨SB.new W1 Y, HB1.out.1.alloc _, HB1.out.2.1.alloc _, HB1.out.2.2.alloc HB1.out.2.2.size _⟩
            revert HB2
            generalize W1.alloc (.cells #[.int .u64 (Cs.wd Y 0), .int .u64 (Cs.wd Y 1), .int .u64 (Cs.wd Y 2), .int .u64 (Cs.wd Y 3)] 67) = V
            generalize W1.heap.size = D
            intro HB2
            have d0 := HB2.out.2.1.at (i := 0) (by decide)
            have d1 := HB2.out.2.1.at (i := 1) (by decide)
            have d2 := HB2.out.2.1.at (i := 2) (by decide)
            have d3 := HB2.out.2.1.at (i := 3) (by decide)
            have df0 := HB2.out.2.1.free 0
            have df1 := HB2.out.2.1.free 1
            have df2 := HB2.out.2.1.free 2
            have df3 := HB2.out.2.1.free 3
            go_wp2
            have hr := Lib.hid (show SB ((((V.setCell ⟨w.heap.size, 0, none⟩ (.int .u64 0)).setCell ⟨w.heap.size, 1, none⟩ (.int .u64 0)).setCell ⟨w.heap.size, 2, none⟩ (.int .u64 0)).setCell ⟨w.heap.size, 3, none⟩ (.int .u64 0)) w.heap.size 0 ∧ Below w.heap.size w ((((V.setCell ⟨w.heap.size, 0, none⟩ (.int .u64 0)).setCell ⟨w.heap.size, 1, none⟩ (.int .u64 0)).setCell ⟨w.heap.size, 2, none⟩ (.int .u64 0)).setCell ⟨w.heap.size, 3, none⟩ (.int .u64 0)) from HB2.out.2.1.res HB2.out.2.2.2 (Nat.le_refl _) 0)
            clear d0 d1 d2 d3 df0 df1 df2 df3 HB2
            revert hr
            generalize (((V.setCell ⟨w.heap.size, 0, none⟩ (.int .u64 0)).setCell ⟨w.heap.size, 1, none⟩ (.int .u64 0)).setCell ⟨w.heap.size, 2, none⟩ (.int .u64 0)).setCell ⟨w.heap.size, 3, none⟩ (.int .u64 0) = W9
            intro hr
            have c0 := hr.out.1.at (i := 0) (by decide)
            have c1 := hr.out.1.at (i := 1) (by decide)
            have c2 := hr.out.1.at (i := 2) (by decide)
            have c3 := hr.out.1.at (i := 3) (by decide)
            refine bodyPost_ret (v := .tuple #[.agg #[.int .u64 (Cs.wd 0 0), .int .u64 (Cs.wd 0 1), .int .u64 (Cs.wd 0 2), .int .u64 (Cs.wd 0 3)], .int .i64 ((k : Int) + j), .int .i64 q]) (by simp [results, Try.results45, go_sem, c0, c1, c2, c3]) rfl ?_
            rw [HE.out.1, HE.out.2.1, HE.out.2.2]
            exact ⟨by rw [Int.natCast_add]; rfl, hr.out.2⟩
      · have hk0 : ¬ (0 : Int) < (k : Int) := by omega
        clear hend
        by_cases hq : q = 0
        · subst hq
          rw [if_neg (by simp)] at hR
          have hj1 : 1 ≤ j := hle.2 rfl
          obtain ⟨f, rfl⟩ : ∃ f, f0 = f + 1 := ⟨f0 - 1, by omega⟩
          obtain ⟨X2, hX2⟩ : ∃ X2, X ||| Y = X2 := ⟨_, rfl⟩
          rw [hX2] at hR
          have HS2 := Lib.hid hX2
          have HR2 := Lib.hid hR
          clear hR hX2 hle hT h hs hll
          go_upto_region 6 with (go_at_call 48; refine (cs_rdP u (l.drop k) HU.out.2.1 HU.out.1 Y j 0 HU.out.2.2 _).mono ?_; rintro e W1 ⟨rfl, hb1⟩; unfold Cs.sv; have HB1 : Hid (SB W1 w.heap.size 0 ∧ SB W1 (w.heap.size + 1) X ∧ Below w.heap.size w W1) := Lib.hid ⟨HB.out.1.below hb1, HB.out.2.1.below hb1, HB.out.2.2.trans (hb1.mono HB.out.2.2.size)⟩; clear hb1)
          have HB2 : Hid (SB (W1.alloc (.cells #[.int .u64 (Cs.wd Y 0), .int .u64 (Cs.wd Y 1), .int .u64 (Cs.wd Y 2), .int .u64 (Cs.wd Y 3)] 67)) W1.heap.size Y ∧ SB (W1.alloc (.cells #[.int .u64 (Cs.wd Y 0), .int .u64 (Cs.wd Y 1), .int .u64 (Cs.wd Y 2), .int .u64 (Cs.wd Y 3)] 67)) w.heap.size 0 ∧ SB (W1.alloc (.cells #[.int .u64 (Cs.wd Y 0), .int .u64 (Cs.wd Y 1), .int .u64 (Cs.wd Y 2), .int .u64 (Cs.wd Y 3)] 67)) (w.heap.size + 1) X ∧ Below w.heap.size w (W1.alloc (.cells #[.int .u64 (Cs.wd Y 0), .int .u64 (Cs.wd Y 1), .int .u64 (Cs.wd Y 2), .int .u64 (Cs.wd Y 3)] 67))) := Lib.hid ⟨SB.new W1 Y, HB1.out.1.alloc _, HB1.out.2.1.alloc _, HB1.out.2.2.alloc HB1.out.2.2.size _⟩
          revert HB2
          generalize W1.alloc (.cells #[.int .u64 (Cs.wd Y 0), .int .u64 (Cs.wd Y 1), .int .u64 (Cs.wd Y 2), .int .u64 (Cs.wd Y 3)] 67) = V
          generalize W1.heap.size = D
          intro HB2
          have y0 := HB2.out.1.at (i := 0) (by decide)
          have y1 := HB2.out.1.at (i := 1) (by decide)
          have y2 := HB2.out.1.at (i := 2) (by decide)
          have y3 := HB2.out.1.at (i := 3) (by decide)
          have z0 := HB2.out.2.2.1.at (i := 0) (by decide)
          have z1 := HB2.out.2.2.1.at (i := 1) (by decide)
          have z2 := HB2.out.2.2.1.at (i := 2) (by decide)
          have z3 := HB2.out.2.2.1.at (i := 3) (by decide)
          go_wp2_with (go_at_call 49; rw [sv_def X, sv_def Y]; refine (cs_or X Y _).mono ?_; rintro e W5 ⟨rfl, hb5⟩; rw [HS2.out]; unfold Cs.sv; have HB5 : Hid (SB W5 w.heap.size 0 ∧ SB W5 (w.heap.size + 1) X ∧ Below w.heap.size w W5) := Lib.hid ⟨HB2.out.2.1.below hb5, HB2.out.2.2.1.below hb5, HB2.out.2.2.2.trans (hb5.mono HB2.out.2.2.2.size)⟩; clear hb5 y0 y1 y2 y3 z0 z1 z2 z3; have z0 := HB5.out.2.1.at (i := 0) (by decide); have zf0 := HB5.out.2.1.free 0; have z1 := HB5.out.2.1.at (i := 1) (by decide); have zf1 := HB5.out.2.1.free 1; have z2 := HB5.out.2.1.at (i := 2) (by decide); have zf2 := HB5.out.2.1.free 2; have z3 := HB5.out.2.1.at (i := 3) (by decide); have zf3 := HB5.out.2.1.free 3)
          have HN := Lib.hid (set4_two HB5.out.1 HB5.out.2.1 HB5.out.2.2 (by omega) (by omega) X2)
          refine ⟨?_, ?measure⟩
          case measure => simp [intOf]; omega
          first
            | exact ⟨k + j, f, X2, by go_num, by omega, by omega, HR2, HN⟩
            | exact ⟨k + j, f, X2, rfl, by omega, by omega, HR2, HN⟩
            | ((repeat apply Exists.intro); exact ⟨⟨k + j, f, X2, by go_num, by omega, by omega, HR2, HN⟩, rfl⟩)
        · rw [if_pos hq] at hR
          have HE : Hid (Z = 0 ∧ n = k + j ∧ e = q) := Lib.hid (by simp only [Prod.mk.injEq] at hR; exact ⟨hR.1.symm, hR.2.1.symm, hR.2.2.symm⟩)
          have kq : ((q : Int) != 0) = true := by rw [bne_iff_ne]; omega
          clear hR hle hT h hs hll hq
          go_upto_region 6 with (go_at_call 48; refine (cs_rdP u (l.drop k) HU.out.2.1 HU.out.1 Y j q HU.out.2.2 _).mono ?_; rintro e W1 ⟨rfl, hb1⟩; unfold Cs.sv; have HB1 : Hid (SB W1 w.heap.size 0 ∧ SB W1 (w.heap.size + 1) X ∧ Below w.heap.size w W1) := Lib.hid ⟨HB.out.1.below hb1, HB.out.2.1.below hb1, HB.out.2.2.trans (hb1.mono HB.out.2.2.size)⟩; clear hb1)
          have HB2 : Hid (SB (W1.alloc (.cells #[.int .u64 (Cs.wd Y 0), .int .u64 (Cs.wd Y 1), .int .u64 (Cs.wd Y 2), .int .u64 (Cs.wd Y 3)] 67)) W1.heap.size Y ∧ SB (W1.alloc (.cells #[.int .u64 (Cs.wd Y 0), .int .u64 (Cs.wd Y 1), .int .u64 (Cs.wd Y 2), .int .u64 (Cs.wd Y 3)] 67)) w.heap.size 0 ∧ SB (W1.alloc (.cells #[.int .u64 (Cs.wd Y 0), .int .u64 (Cs.wd Y 1), .int .u64 (Cs.wd Y 2), .int .u64 (Cs.wd Y 3)] 67)) (w.heap.size + 1) X ∧ Below w.heap.size w (W1.alloc (.cells #[.int .u64 (Cs.wd Y 0), .int .u64 (Cs.wd Y 1), .int .u64 (Cs.wd Y 2), .int .u64 (Cs.wd Y 3)] 67))) := Lib.hid ⟨SB.new W1 Y, HB1.out.1.alloc _, HB1.out.2.1.alloc _, HB1.out.2.2.alloc HB1.out.2.2.size _⟩
          revert HB2
          generalize W1.alloc (.cells #[.int .u64 (Cs.wd Y 0), .int .u64 (Cs.wd Y 1), .int .u64 (Cs.wd Y 2), .int .u64 (Cs.wd Y 3)] 67) = V
          generalize W1.heap.size = D
          intro HB2
          have d0 := HB2.out.2.1.at (i := 0) (by decide)
          have d1 := HB2.out.2.1.at (i := 1) (by decide)
          have d2 := HB2.out.2.1.at (i := 2) (by decide)
          have d3 := HB2.out.2.1.at (i := 3) (by decide)
          have df0 := HB2.out.2.1.free 0
          have df1 := HB2.out.2.1.free 1
          have df2 := HB2.out.2.1.free 2
          have df3 := HB2.out.2.1.free 3
          go_wp2
          have hr := Lib.hid (show SB ((((V.setCell ⟨w.heap.size, 0, none⟩ (.int .u64 0)).setCell ⟨w.heap.size, 1, none⟩ (.int .u64 0)).setCell ⟨w.heap.size, 2, none⟩ (.int .u64 0)).setCell ⟨w.heap.size, 3, none⟩ (.int .u64 0)) w.heap.size 0 ∧ Below w.heap.size w ((((V.setCell ⟨w.heap.size, 0, none⟩ (.int .u64 0)).setCell ⟨w.heap.size, 1, none⟩ (.int .u64 0)).setCell ⟨w.heap.size, 2, none⟩ (.int .u64 0)).setCell ⟨w.heap.size, 3, none⟩ (.int .u64 0)) from HB2.out.2.1.res HB2.out.2.2.2 (Nat.le_refl _) 0)
          clear d0 d1 d2 d3 df0 df1 df2 df3 HB2
          revert hr
          generalize (((V.setCell ⟨w.heap.size, 0, none⟩ (.int .u64 0)).setCell ⟨w.heap.size, 1, none⟩ (.int .u64 0)).setCell ⟨w.heap.size, 2, none⟩ (.int .u64 0)).setCell ⟨w.heap.size, 3, none⟩ (.int .u64 0) = W9
          intro hr
          have c0 := hr.out.1.at (i := 0) (by decide)
          have c1 := hr.out.1.at (i := 1) (by decide)
          have c2 := hr.out.1.at (i := 2) (by decide)
          have c3 := hr.out.1.at (i := 3) (by decide)
          refine bodyPost_ret (v := .tuple #[.agg #[.int .u64 (Cs.wd 0 0), .int .u64 (Cs.wd 0 1), .int .u64 (Cs.wd 0 2), .int .u64 (Cs.wd 0 3)], .int .i64 ((k : Int) + j), .int .i64 q]) (by simp [results, Try.results45, go_sem, c0, c1, c2, c3]) rfl ?_
          rw [HE.out.1, HE.out.2.1, HE.out.2.2]
          exact ⟨by rw [Int.natCast_add]; rfl, hr.out.2⟩
end Go.Proofs.Ytoniipmgkoogbaa
/- Any text as a set. -/
namespace Go.Proofs.Ytoniipmgkoogbaa
open Go.ChangeShapes Go.WideShapes Go.ChangeAt Go.RowKit
set_option linter.unusedSimpArgs false
set_option linter.unusedVariables false

theorem rdL_le : ∀ (f : Nat) (l : List UInt8) (k : Nat) (X : BitVec 256), k ≤ l.length → (Cs.rdL f l k X).2.1 ≤ l.length
  | 0, l, k, X, h => h
  | f + 1, l, k, X, h => by
    rw [rdL_succ]
    have a := rdP_le (l.drop k)
    rw [List.length_drop] at a
    by_cases h1 : 0 < k ∧ l[k]? = some 93
    · rw [if_pos h1]
      have := (List.getElem?_eq_some_iff.1 h1.2).1
      exact this
    · rw [if_neg h1]
      by_cases h2 : (Cs.rdP (l.drop k)).2.2 ≠ 0
      · rw [if_pos h2]; simp only; omega
      · rw [if_neg h2]; exact rdL_le f l _ _ (by omega)
def Cs.rdR (a : Nat) (b : Bool) (y : BitVec 256 × Nat × Nat) : BitVec 256 × Nat × Nat :=
  if y.2.2 ≠ 0 then (0, a + y.2.1, y.2.2) else (if b then ~~~y.1 else y.1, a + y.2.1, 0)
/-- The set with which bytes begin: it, how many bytes it takes, the error. -/
def Cs.rdC : List UInt8 → BitVec 256 × Nat × Nat
  | [] => (0, 0, 3)
  | b :: r => if b ≠ 91 then (0, 0, 2) else if r.head? = some 94 then Cs.rdR 2 true (Cs.rdL ((r.drop 1).length + 1) (r.drop 1) 0 0) else Cs.rdR 1 false (Cs.rdL (r.length + 1) r 0 0)
theorem rdC_cons (b : UInt8) (r : List UInt8) : Cs.rdC (b :: r) = if b ≠ 91 then (0, 0, 2) else if r.head? = some 94 then Cs.rdR 2 true (Cs.rdL ((r.drop 1).length + 1) (r.drop 1) 0 0) else Cs.rdR 1 false (Cs.rdL (r.length + 1) r 0 0) := rfl
set_option maxRecDepth 20000 in
set_option maxHeartbeats 8000000 in
theorem cs_rdC (s : ByteArray) (l : List UInt8) (hs : s.size ≤ 1000000) (h : s.data.toList = l) (X : BitVec 256) (n e : Nat) (hr : Cs.rdC l = (X, n, e)) (w : World) :
    Calls Try.prog 40 #[.string s] w fun r w' => r = .returned (.tuple #[Cs.sv X, .int .i64 n, .int .i64 e]) ∧ Below w.heap.size w w' := by
  obtain ⟨N, hN⟩ : ∃ N, s.size = N := ⟨_, rfl⟩
  match l, h, hr with
  | [], h, hr =>
    obtain rfl := empty_of h
    simp only [Cs.rdC, Prod.mk.injEq] at hr
    obtain ⟨rfl, rfl, rfl⟩ := hr
    clear h hs hN
    have hc : Hid (SB (w.alloc (.cells #[.int .u64 0, .int .u64 0, .int .u64 0, .int .u64 0] 67)) w.heap.size 0 ∧ Below w.heap.size w (w.alloc (.cells #[.int .u64 0, .int .u64 0, .int .u64 0, .int .u64 0] 67))) := Lib.hid ⟨SB.zero w, (Below.refl _ _).alloc (Nat.le_refl _) _⟩
    go_enter Try.func40, Try.ntmps40
    go_upto_region 1 with fail
    revert hc
    generalize w.alloc (.cells #[.int .u64 0, .int .u64 0, .int .u64 0, .int .u64 0] 67) = W
    intro hc
    have d0 := hc.out.1.at (i := 0) (by decide)
    have d1 := hc.out.1.at (i := 1) (by decide)
    have d2 := hc.out.1.at (i := 2) (by decide)
    have d3 := hc.out.1.at (i := 3) (by decide)
    have df0 := hc.out.1.free 0
    have df1 := hc.out.1.free 1
    have df2 := hc.out.1.free 2
    have df3 := hc.out.1.free 3
    go_wp2
    have hr := Lib.hid (show SB ((((W.setCell ⟨w.heap.size, 0, none⟩ (.int .u64 0)).setCell ⟨w.heap.size, 1, none⟩ (.int .u64 0)).setCell ⟨w.heap.size, 2, none⟩ (.int .u64 0)).setCell ⟨w.heap.size, 3, none⟩ (.int .u64 0)) w.heap.size 0 ∧ Below w.heap.size w ((((W.setCell ⟨w.heap.size, 0, none⟩ (.int .u64 0)).setCell ⟨w.heap.size, 1, none⟩ (.int .u64 0)).setCell ⟨w.heap.size, 2, none⟩ (.int .u64 0)).setCell ⟨w.heap.size, 3, none⟩ (.int .u64 0)) from hc.out.1.res hc.out.2 (Nat.le_refl _) 0)
    clear d0 d1 d2 d3 df0 df1 df2 df3 hc
    revert hr
    generalize (((W.setCell ⟨w.heap.size, 0, none⟩ (.int .u64 0)).setCell ⟨w.heap.size, 1, none⟩ (.int .u64 0)).setCell ⟨w.heap.size, 2, none⟩ (.int .u64 0)).setCell ⟨w.heap.size, 3, none⟩ (.int .u64 0) = W9
    intro hr
    have c0 := hr.out.1.at (i := 0) (by decide)
    have c1 := hr.out.1.at (i := 1) (by decide)
    have c2 := hr.out.1.at (i := 2) (by decide)
    have c3 := hr.out.1.at (i := 3) (by decide)
    refine bodyPost_ret (v := .tuple #[.agg #[.int .u64 (Cs.wd 0 0), .int .u64 (Cs.wd 0 1), .int .u64 (Cs.wd 0 2), .int .u64 (Cs.wd 0 3)], .int .i64 0, .int .i64 3]) (by simp [results, Try.results40, go_sem, c0, c1, c2, c3]) rfl ?_
    exact ⟨rfl, hr.out.2⟩
  | b :: r, h, hr =>
    obtain ⟨l0, e0⟩ := at_of (i := 0) h rfl
    have he := ne_empty s l0
    rw [rdC_cons] at hr
    have hN1 : N = r.length + 1 := by rw [← hN, size_of h]; rfl
    have hl6 : N ≤ 1000000 := by omega
    by_cases hb : b = 91
    · subst hb
      rw [if_neg (by simp)] at hr
      have c0 : (s[0].toNat : Int) = 91 := by rw [e0]; rfl
      by_cases hh : r.head? = some 94
      · rw [if_pos hh] at hr
        obtain ⟨r2, hr2⟩ : ∃ r2, r = 94 :: r2 := by
          cases r with
          | nil => simp at hh
          | cons x y => simp at hh; exact ⟨y, by rw [hh]⟩
        have hr1 : r.length = r2.length + 1 := by rw [hr2]; rfl
        obtain ⟨lu, hlu⟩ : ∃ lu, r.drop 1 = lu := ⟨_, rfl⟩
        have hlul : lu.length = r2.length := by rw [← hlu, hr2]; rfl
        rw [hlu] at hr
        obtain ⟨l1, e1⟩ := at_of (i := 1) (b := 94) h (by rw [hr2]; rfl)
        have c1 : (s[1].toNat : Int) = 94 := by rw [e1]; rfl
        have hl3 : 1 < (N : Int) := by omega
        have hl4 : 1 < N := by omega
        have hl5 : 2 ≤ N := by omega
        obtain ⟨F, m, q, hT⟩ : ∃ a n e, Cs.rdL (lu.length + 1) lu 0 0 = (a, n, e) := ⟨_, _, _, rfl⟩
        have hle := rdL_le (lu.length + 1) lu 0 0 (by omega)
        rw [hT] at hr hle
        unfold Cs.rdR at hr
        dsimp only at hr hle
        obtain ⟨u, hu⟩ : ∃ u, s.extract 2 N = u := ⟨_, rfl⟩
        have HU : Hid (u.data.toList = lu ∧ u.size ≤ 1000000 ∧ Cs.rdL (lu.length + 1) lu 0 0 = (F, m, q)) := Lib.hid (by
          have e := ext_drop hN hu
          rw [h, show (91 :: r : List UInt8).drop 2 = lu from hlu] at e
          refine ⟨e, ?_, hT⟩
          rw [size_of e]; omega)
        have hm6 : m ≤ 1000001 := by omega
        have w1 : IntKind.i64.wrap (2 + (m : Int)) = 2 + (m : Int) := IntWalk.i64_in _ (by omega)
        clear hlu hr2 hr1 hlul hh e0 e1 hN1
        by_cases hq : q = 0
        · subst hq
          rw [if_neg (by simp)] at hr
          have HE : Hid (X = ~~~F ∧ n = 2 + m ∧ e = 0) := Lib.hid (by simp only [Prod.mk.injEq] at hr; exact ⟨by simpa using hr.1.symm, hr.2.1.symm, hr.2.2.symm⟩)
          clear hr hle hT h hs
          have hc : Hid (SB (w.alloc (.cells #[.int .u64 0, .int .u64 0, .int .u64 0, .int .u64 0] 67)) w.heap.size 0 ∧ Below w.heap.size w (w.alloc (.cells #[.int .u64 0, .int .u64 0, .int .u64 0, .int .u64 0] 67))) := Lib.hid ⟨SB.zero w, (Below.refl _ _).alloc (Nat.le_refl _) _⟩
          go_enter Try.func40, Try.ntmps40
          go_upto_region 1 with fail
          revert hc
          generalize w.alloc (.cells #[.int .u64 0, .int .u64 0, .int .u64 0, .int .u64 0] 67) = W
          intro hc
          go_upto_region 9 with (go_at_call 45; refine (cs_rdL u lu HU.out.2.1 HU.out.1 F m 0 HU.out.2.2 _).mono ?_; rintro e W1 ⟨rfl, hb1⟩; unfold Cs.sv; have HB1 : Hid (SB W1 w.heap.size 0 ∧ Below w.heap.size w W1) := Lib.hid ⟨hc.out.1.below hb1, hc.out.2.trans (hb1.mono hc.out.2.size)⟩; clear hb1)
          have HB2 : Hid (SB (W1.alloc (.cells #[.int .u64 (Cs.wd F 0), .int .u64 (Cs.wd F 1), .int .u64 (Cs.wd F 2), .int .u64 (Cs.wd F 3)] 67)) W1.heap.size F ∧ SB (W1.alloc (.cells #[.int .u64 (Cs.wd F 0), .int .u64 (Cs.wd F 1), .int .u64 (Cs.wd F 2), .int .u64 (Cs.wd F 3)] 67)) w.heap.size 0 ∧ Below w.heap.size w (W1.alloc (.cells #[.int .u64 (Cs.wd F 0), .int .u64 (Cs.wd F 1), .int .u64 (Cs.wd F 2), .int .u64 (Cs.wd F 3)] 67)) ∧ w.heap.size < W1.heap.size) := Lib.hid ⟨SB.new W1 F, HB1.out.1.alloc _, HB1.out.2.alloc HB1.out.2.size _, HB1.out.1.lt⟩
          clear hc HB1
          revert HB2
          generalize W1.alloc (.cells #[.int .u64 (Cs.wd F 0), .int .u64 (Cs.wd F 1), .int .u64 (Cs.wd F 2), .int .u64 (Cs.wd F 3)] 67) = V
          generalize W1.heap.size = D
          intro HB2
          have hD := HB2.out.2.2.2
          replace HB2 : Hid (SB V D F ∧ SB V w.heap.size 0 ∧ Below w.heap.size w V) := Lib.hid ⟨HB2.out.1, HB2.out.2.1, HB2.out.2.2.1⟩
          have y0 := HB2.out.1.at (i := 0) (by decide)
          have y1 := HB2.out.1.at (i := 1) (by decide)
          have y2 := HB2.out.1.at (i := 2) (by decide)
          have y3 := HB2.out.1.at (i := 3) (by decide)
          go_upto_region 13 with (go_at_call 44; rw [sv_def F]; refine (cs_not F _).mono ?_; rintro e W5 ⟨rfl, hb5⟩; unfold Cs.sv; have HB5 : Hid (SB W5 D F ∧ SB W5 w.heap.size 0 ∧ Below w.heap.size w W5) := Lib.hid ⟨HB2.out.1.below hb5, HB2.out.2.1.below hb5, HB2.out.2.2.trans (hb5.mono HB2.out.2.2.size)⟩; clear hb5 y0 y1 y2 y3; have y0 := HB5.out.1.at (i := 0) (by decide); have yf0 := HB5.out.1.free 0; have y1 := HB5.out.1.at (i := 1) (by decide); have yf1 := HB5.out.1.free 1; have y2 := HB5.out.1.at (i := 2) (by decide); have yf2 := HB5.out.1.free 2; have y3 := HB5.out.1.at (i := 3) (by decide); have yf3 := HB5.out.1.free 3)
          have HB6 := Lib.hid (set4_two HB5.out.2.1 HB5.out.1 HB5.out.2.2 (by omega) (by omega) (~~~F))
          clear y0 y1 y2 y3 yf0 yf1 yf2 yf3 HB5 HB2
          revert HB6
          generalize (((W5.setCell ⟨D, 0, none⟩ (.int .u64 (Cs.wd (~~~F) 0))).setCell ⟨D, 1, none⟩ (.int .u64 (Cs.wd (~~~F) 1))).setCell ⟨D, 2, none⟩ (.int .u64 (Cs.wd (~~~F) 2))).setCell ⟨D, 3, none⟩ (.int .u64 (Cs.wd (~~~F) 3)) = V6
          intro HB6
          have y0 := HB6.out.2.1.at (i := 0) (by decide)
          have y1 := HB6.out.2.1.at (i := 1) (by decide)
          have y2 := HB6.out.2.1.at (i := 2) (by decide)
          have y3 := HB6.out.2.1.at (i := 3) (by decide)
          have d0 := HB6.out.1.at (i := 0) (by decide)
          have d1 := HB6.out.1.at (i := 1) (by decide)
          have d2 := HB6.out.1.at (i := 2) (by decide)
          have d3 := HB6.out.1.at (i := 3) (by decide)
          have df0 := HB6.out.1.free 0
          have df1 := HB6.out.1.free 1
          have df2 := HB6.out.1.free 2
          have df3 := HB6.out.1.free 3
          go_wp2
          have hr := Lib.hid (HB6.out.1.res HB6.out.2.2 (Nat.le_refl _) (~~~F))
          clear y0 y1 y2 y3 d0 d1 d2 d3 df0 df1 df2 df3 HB6
          revert hr
          generalize (((V6.setCell ⟨w.heap.size, 0, none⟩ (.int .u64 (Cs.wd (~~~F) 0))).setCell ⟨w.heap.size, 1, none⟩ (.int .u64 (Cs.wd (~~~F) 1))).setCell ⟨w.heap.size, 2, none⟩ (.int .u64 (Cs.wd (~~~F) 2))).setCell ⟨w.heap.size, 3, none⟩ (.int .u64 (Cs.wd (~~~F) 3)) = W9
          intro hr
          have c0 := hr.out.1.at (i := 0) (by decide)
          have c1 := hr.out.1.at (i := 1) (by decide)
          have c2 := hr.out.1.at (i := 2) (by decide)
          have c3 := hr.out.1.at (i := 3) (by decide)
          refine bodyPost_ret (v := .tuple #[.agg #[.int .u64 (Cs.wd (~~~F) 0), .int .u64 (Cs.wd (~~~F) 1), .int .u64 (Cs.wd (~~~F) 2), .int .u64 (Cs.wd (~~~F) 3)], .int .i64 (2 + (m : Int)), .int .i64 0]) (by simp [results, Try.results40, go_sem, c0, c1, c2, c3]) rfl ?_
          rw [HE.out.1, HE.out.2.1, HE.out.2.2]
          exact ⟨by rw [Int.natCast_add]; rfl, hr.out.2⟩
        · rw [if_pos hq] at hr
          have HE : Hid (X = 0 ∧ n = 2 + m ∧ e = q) := Lib.hid (by simp only [Prod.mk.injEq] at hr; exact ⟨hr.1.symm, hr.2.1.symm, hr.2.2.symm⟩)
          have kq : ((q : Int) != 0) = true := by rw [bne_iff_ne]; omega
          clear hr hle hT h hs hq
          have hc : Hid (SB (w.alloc (.cells #[.int .u64 0, .int .u64 0, .int .u64 0, .int .u64 0] 67)) w.heap.size 0 ∧ Below w.heap.size w (w.alloc (.cells #[.int .u64 0, .int .u64 0, .int .u64 0, .int .u64 0] 67))) := Lib.hid ⟨SB.zero w, (Below.refl _ _).alloc (Nat.le_refl _) _⟩
          go_enter Try.func40, Try.ntmps40
          go_upto_region 1 with fail
          revert hc
          generalize w.alloc (.cells #[.int .u64 0, .int .u64 0, .int .u64 0, .int .u64 0] 67) = W
          intro hc
          go_upto_region 9 with (go_at_call 45; refine (cs_rdL u lu HU.out.2.1 HU.out.1 F m q HU.out.2.2 _).mono ?_; rintro e W1 ⟨rfl, hb1⟩; unfold Cs.sv; have HB1 : Hid (SB W1 w.heap.size 0 ∧ Below w.heap.size w W1) := Lib.hid ⟨hc.out.1.below hb1, hc.out.2.trans (hb1.mono hc.out.2.size)⟩; clear hb1)
          have HB2 : Hid (SB (W1.alloc (.cells #[.int .u64 (Cs.wd F 0), .int .u64 (Cs.wd F 1), .int .u64 (Cs.wd F 2), .int .u64 (Cs.wd F 3)] 67)) W1.heap.size F ∧ SB (W1.alloc (.cells #[.int .u64 (Cs.wd F 0), .int .u64 (Cs.wd F 1), .int .u64 (Cs.wd F 2), .int .u64 (Cs.wd F 3)] 67)) w.heap.size 0 ∧ Below w.heap.size w (W1.alloc (.cells #[.int .u64 (Cs.wd F 0), .int .u64 (Cs.wd F 1), .int .u64 (Cs.wd F 2), .int .u64 (Cs.wd F 3)] 67)) ∧ w.heap.size < W1.heap.size) := Lib.hid ⟨SB.new W1 F, HB1.out.1.alloc _, HB1.out.2.alloc HB1.out.2.size _, HB1.out.1.lt⟩
          clear hc HB1
          revert HB2
          generalize W1.alloc (.cells #[.int .u64 (Cs.wd F 0), .int .u64 (Cs.wd F 1), .int .u64 (Cs.wd F 2), .int .u64 (Cs.wd F 3)] 67) = V
          generalize W1.heap.size = D
          intro HB2
          have hD := HB2.out.2.2.2
          replace HB2 : Hid (SB V D F ∧ SB V w.heap.size 0 ∧ Below w.heap.size w V) := Lib.hid ⟨HB2.out.1, HB2.out.2.1, HB2.out.2.2.1⟩
          have d0 := HB2.out.2.1.at (i := 0) (by decide)
          have d1 := HB2.out.2.1.at (i := 1) (by decide)
          have d2 := HB2.out.2.1.at (i := 2) (by decide)
          have d3 := HB2.out.2.1.at (i := 3) (by decide)
          have df0 := HB2.out.2.1.free 0
          have df1 := HB2.out.2.1.free 1
          have df2 := HB2.out.2.1.free 2
          have df3 := HB2.out.2.1.free 3
          go_wp2
          have hr := Lib.hid (show SB ((((V.setCell ⟨w.heap.size, 0, none⟩ (.int .u64 0)).setCell ⟨w.heap.size, 1, none⟩ (.int .u64 0)).setCell ⟨w.heap.size, 2, none⟩ (.int .u64 0)).setCell ⟨w.heap.size, 3, none⟩ (.int .u64 0)) w.heap.size 0 ∧ Below w.heap.size w ((((V.setCell ⟨w.heap.size, 0, none⟩ (.int .u64 0)).setCell ⟨w.heap.size, 1, none⟩ (.int .u64 0)).setCell ⟨w.heap.size, 2, none⟩ (.int .u64 0)).setCell ⟨w.heap.size, 3, none⟩ (.int .u64 0)) from HB2.out.2.1.res HB2.out.2.2 (Nat.le_refl _) 0)
          clear d0 d1 d2 d3 df0 df1 df2 df3 HB2
          revert hr
          generalize (((V.setCell ⟨w.heap.size, 0, none⟩ (.int .u64 0)).setCell ⟨w.heap.size, 1, none⟩ (.int .u64 0)).setCell ⟨w.heap.size, 2, none⟩ (.int .u64 0)).setCell ⟨w.heap.size, 3, none⟩ (.int .u64 0) = W9
          intro hr
          have c0 := hr.out.1.at (i := 0) (by decide)
          have c1 := hr.out.1.at (i := 1) (by decide)
          have c2 := hr.out.1.at (i := 2) (by decide)
          have c3 := hr.out.1.at (i := 3) (by decide)
          refine bodyPost_ret (v := .tuple #[.agg #[.int .u64 (Cs.wd 0 0), .int .u64 (Cs.wd 0 1), .int .u64 (Cs.wd 0 2), .int .u64 (Cs.wd 0 3)], .int .i64 (2 + (m : Int)), .int .i64 q]) (by simp [results, Try.results40, go_sem, c0, c1, c2, c3]) rfl ?_
          rw [HE.out.1, HE.out.2.1, HE.out.2.2]
          exact ⟨by rw [Int.natCast_add]; rfl, hr.out.2⟩
      · rw [if_neg hh] at hr
        obtain ⟨lu, hlu⟩ : ∃ lu, r = lu := ⟨_, rfl⟩
        have hlul : lu.length = r.length := by rw [hlu]
        rw [hlu] at hr
        have hl5 : 1 ≤ N := by omega
        obtain ⟨F, m, q, hT⟩ : ∃ a n e, Cs.rdL (lu.length + 1) lu 0 0 = (a, n, e) := ⟨_, _, _, rfl⟩
        have hle := rdL_le (lu.length + 1) lu 0 0 (by omega)
        rw [hT] at hr hle
        unfold Cs.rdR at hr
        dsimp only at hr hle
        obtain ⟨u, hu⟩ : ∃ u, s.extract 1 N = u := ⟨_, rfl⟩
        have HU : Hid (u.data.toList = lu ∧ u.size ≤ 1000000 ∧ Cs.rdL (lu.length + 1) lu 0 0 = (F, m, q)) := Lib.hid (by
          have e := ext_drop hN hu
          rw [h, show (91 :: r : List UInt8).drop 1 = lu from hlu] at e
          refine ⟨e, ?_, hT⟩
          rw [size_of e]; omega)
        have hm6 : m ≤ 1000001 := by omega
        have w1 : IntKind.i64.wrap (1 + (m : Int)) = 1 + (m : Int) := IntWalk.i64_in _ (by omega)
        by_cases h1 : 1 < N
        · have hl3 : 1 < (N : Int) := by omega
          have h1s : 1 < s.size := by omega
          have c1 : ((s[1].toNat : Int) == 94) = false := by
            rw [beq_eq_false_iff_ne]
            intro e
            apply hh
            have hb1 := byte_at h1s
            rw [h, u8_eq (c := s[1]) (d := 94) e] at hb1
            rw [List.head?_eq_getElem?]
            simpa using hb1
          clear hlu hlul hh e0 hN1
          by_cases hq : q = 0
          · subst hq
            rw [if_neg (by simp)] at hr
            have HE : Hid (X = F ∧ n = 1 + m ∧ e = 0) := Lib.hid (by simp only [Prod.mk.injEq] at hr; exact ⟨by simpa using hr.1.symm, hr.2.1.symm, hr.2.2.symm⟩)
            clear hr hle hT h hs
            have hc : Hid (SB (w.alloc (.cells #[.int .u64 0, .int .u64 0, .int .u64 0, .int .u64 0] 67)) w.heap.size 0 ∧ Below w.heap.size w (w.alloc (.cells #[.int .u64 0, .int .u64 0, .int .u64 0, .int .u64 0] 67))) := Lib.hid ⟨SB.zero w, (Below.refl _ _).alloc (Nat.le_refl _) _⟩
            go_enter Try.func40, Try.ntmps40
            go_upto_region 1 with fail
            revert hc
            generalize w.alloc (.cells #[.int .u64 0, .int .u64 0, .int .u64 0, .int .u64 0] 67) = W
            intro hc
            go_upto_region 9 with (go_at_call 45; refine (cs_rdL u lu HU.out.2.1 HU.out.1 F m 0 HU.out.2.2 _).mono ?_; rintro e W1 ⟨rfl, hb1⟩; unfold Cs.sv; have HB1 : Hid (SB W1 w.heap.size 0 ∧ Below w.heap.size w W1) := Lib.hid ⟨hc.out.1.below hb1, hc.out.2.trans (hb1.mono hc.out.2.size)⟩; clear hb1)
            have HB2 : Hid (SB (W1.alloc (.cells #[.int .u64 (Cs.wd F 0), .int .u64 (Cs.wd F 1), .int .u64 (Cs.wd F 2), .int .u64 (Cs.wd F 3)] 67)) W1.heap.size F ∧ SB (W1.alloc (.cells #[.int .u64 (Cs.wd F 0), .int .u64 (Cs.wd F 1), .int .u64 (Cs.wd F 2), .int .u64 (Cs.wd F 3)] 67)) w.heap.size 0 ∧ Below w.heap.size w (W1.alloc (.cells #[.int .u64 (Cs.wd F 0), .int .u64 (Cs.wd F 1), .int .u64 (Cs.wd F 2), .int .u64 (Cs.wd F 3)] 67)) ∧ w.heap.size < W1.heap.size) := Lib.hid ⟨SB.new W1 F, HB1.out.1.alloc _, HB1.out.2.alloc HB1.out.2.size _, HB1.out.1.lt⟩
            clear hc HB1
            revert HB2
            generalize W1.alloc (.cells #[.int .u64 (Cs.wd F 0), .int .u64 (Cs.wd F 1), .int .u64 (Cs.wd F 2), .int .u64 (Cs.wd F 3)] 67) = V
            generalize W1.heap.size = D
            intro HB2
            have hD := HB2.out.2.2.2
            replace HB2 : Hid (SB V D F ∧ SB V w.heap.size 0 ∧ Below w.heap.size w V) := Lib.hid ⟨HB2.out.1, HB2.out.2.1, HB2.out.2.2.1⟩
            have y0 := HB2.out.1.at (i := 0) (by decide)
            have y1 := HB2.out.1.at (i := 1) (by decide)
            have y2 := HB2.out.1.at (i := 2) (by decide)
            have y3 := HB2.out.1.at (i := 3) (by decide)
            have d0 := HB2.out.2.1.at (i := 0) (by decide)
            have d1 := HB2.out.2.1.at (i := 1) (by decide)
            have d2 := HB2.out.2.1.at (i := 2) (by decide)
            have d3 := HB2.out.2.1.at (i := 3) (by decide)
            have df0 := HB2.out.2.1.free 0
            have df1 := HB2.out.2.1.free 1
            have df2 := HB2.out.2.1.free 2
            have df3 := HB2.out.2.1.free 3
            go_wp2
            have hr := Lib.hid (HB2.out.2.1.res HB2.out.2.2 (Nat.le_refl _) F)
            clear y0 y1 y2 y3 d0 d1 d2 d3 df0 df1 df2 df3 HB2
            revert hr
            generalize (((V.setCell ⟨w.heap.size, 0, none⟩ (.int .u64 (Cs.wd F 0))).setCell ⟨w.heap.size, 1, none⟩ (.int .u64 (Cs.wd F 1))).setCell ⟨w.heap.size, 2, none⟩ (.int .u64 (Cs.wd F 2))).setCell ⟨w.heap.size, 3, none⟩ (.int .u64 (Cs.wd F 3)) = W9
            intro hr
            have c0 := hr.out.1.at (i := 0) (by decide)
            have c1 := hr.out.1.at (i := 1) (by decide)
            have c2 := hr.out.1.at (i := 2) (by decide)
            have c3 := hr.out.1.at (i := 3) (by decide)
            refine bodyPost_ret (v := .tuple #[.agg #[.int .u64 (Cs.wd F 0), .int .u64 (Cs.wd F 1), .int .u64 (Cs.wd F 2), .int .u64 (Cs.wd F 3)], .int .i64 (1 + (m : Int)), .int .i64 0]) (by simp [results, Try.results40, go_sem, c0, c1, c2, c3]) rfl ?_
            rw [HE.out.1, HE.out.2.1, HE.out.2.2]
            exact ⟨by rw [Int.natCast_add]; rfl, hr.out.2⟩
          · rw [if_pos hq] at hr
            have HE : Hid (X = 0 ∧ n = 1 + m ∧ e = q) := Lib.hid (by simp only [Prod.mk.injEq] at hr; exact ⟨hr.1.symm, hr.2.1.symm, hr.2.2.symm⟩)
            have kq : ((q : Int) != 0) = true := by rw [bne_iff_ne]; omega
            clear hr hle hT h hs hq
            have hc : Hid (SB (w.alloc (.cells #[.int .u64 0, .int .u64 0, .int .u64 0, .int .u64 0] 67)) w.heap.size 0 ∧ Below w.heap.size w (w.alloc (.cells #[.int .u64 0, .int .u64 0, .int .u64 0, .int .u64 0] 67))) := Lib.hid ⟨SB.zero w, (Below.refl _ _).alloc (Nat.le_refl _) _⟩
            go_enter Try.func40, Try.ntmps40
            go_upto_region 1 with fail
            revert hc
            generalize w.alloc (.cells #[.int .u64 0, .int .u64 0, .int .u64 0, .int .u64 0] 67) = W
            intro hc
            go_upto_region 9 with (go_at_call 45; refine (cs_rdL u lu HU.out.2.1 HU.out.1 F m q HU.out.2.2 _).mono ?_; rintro e W1 ⟨rfl, hb1⟩; unfold Cs.sv; have HB1 : Hid (SB W1 w.heap.size 0 ∧ Below w.heap.size w W1) := Lib.hid ⟨hc.out.1.below hb1, hc.out.2.trans (hb1.mono hc.out.2.size)⟩; clear hb1)
            have HB2 : Hid (SB (W1.alloc (.cells #[.int .u64 (Cs.wd F 0), .int .u64 (Cs.wd F 1), .int .u64 (Cs.wd F 2), .int .u64 (Cs.wd F 3)] 67)) W1.heap.size F ∧ SB (W1.alloc (.cells #[.int .u64 (Cs.wd F 0), .int .u64 (Cs.wd F 1), .int .u64 (Cs.wd F 2), .int .u64 (Cs.wd F 3)] 67)) w.heap.size 0 ∧ Below w.heap.size w (W1.alloc (.cells #[.int .u64 (Cs.wd F 0), .int .u64 (Cs.wd F 1), .int .u64 (Cs.wd F 2), .int .u64 (Cs.wd F 3)] 67)) ∧ w.heap.size < W1.heap.size) := Lib.hid ⟨SB.new W1 F, HB1.out.1.alloc _, HB1.out.2.alloc HB1.out.2.size _, HB1.out.1.lt⟩
            clear hc HB1
            revert HB2
            generalize W1.alloc (.cells #[.int .u64 (Cs.wd F 0), .int .u64 (Cs.wd F 1), .int .u64 (Cs.wd F 2), .int .u64 (Cs.wd F 3)] 67) = V
            generalize W1.heap.size = D
            intro HB2
            have hD := HB2.out.2.2.2
            replace HB2 : Hid (SB V D F ∧ SB V w.heap.size 0 ∧ Below w.heap.size w V) := Lib.hid ⟨HB2.out.1, HB2.out.2.1, HB2.out.2.2.1⟩
            have d0 := HB2.out.2.1.at (i := 0) (by decide)
            have d1 := HB2.out.2.1.at (i := 1) (by decide)
            have d2 := HB2.out.2.1.at (i := 2) (by decide)
            have d3 := HB2.out.2.1.at (i := 3) (by decide)
            have df0 := HB2.out.2.1.free 0
            have df1 := HB2.out.2.1.free 1
            have df2 := HB2.out.2.1.free 2
            have df3 := HB2.out.2.1.free 3
            go_wp2
            have hr := Lib.hid (show SB ((((V.setCell ⟨w.heap.size, 0, none⟩ (.int .u64 0)).setCell ⟨w.heap.size, 1, none⟩ (.int .u64 0)).setCell ⟨w.heap.size, 2, none⟩ (.int .u64 0)).setCell ⟨w.heap.size, 3, none⟩ (.int .u64 0)) w.heap.size 0 ∧ Below w.heap.size w ((((V.setCell ⟨w.heap.size, 0, none⟩ (.int .u64 0)).setCell ⟨w.heap.size, 1, none⟩ (.int .u64 0)).setCell ⟨w.heap.size, 2, none⟩ (.int .u64 0)).setCell ⟨w.heap.size, 3, none⟩ (.int .u64 0)) from HB2.out.2.1.res HB2.out.2.2 (Nat.le_refl _) 0)
            clear d0 d1 d2 d3 df0 df1 df2 df3 HB2
            revert hr
            generalize (((V.setCell ⟨w.heap.size, 0, none⟩ (.int .u64 0)).setCell ⟨w.heap.size, 1, none⟩ (.int .u64 0)).setCell ⟨w.heap.size, 2, none⟩ (.int .u64 0)).setCell ⟨w.heap.size, 3, none⟩ (.int .u64 0) = W9
            intro hr
            have c0 := hr.out.1.at (i := 0) (by decide)
            have c1 := hr.out.1.at (i := 1) (by decide)
            have c2 := hr.out.1.at (i := 2) (by decide)
            have c3 := hr.out.1.at (i := 3) (by decide)
            refine bodyPost_ret (v := .tuple #[.agg #[.int .u64 (Cs.wd 0 0), .int .u64 (Cs.wd 0 1), .int .u64 (Cs.wd 0 2), .int .u64 (Cs.wd 0 3)], .int .i64 (1 + (m : Int)), .int .i64 q]) (by simp [results, Try.results40, go_sem, c0, c1, c2, c3]) rfl ?_
            rw [HE.out.1, HE.out.2.1, HE.out.2.2]
            exact ⟨by rw [Int.natCast_add]; rfl, hr.out.2⟩
        · have hl3 : ¬ 1 < (N : Int) := by omega
          clear hlu hlul hh e0 hN1
          by_cases hq : q = 0
          · subst hq
            rw [if_neg (by simp)] at hr
            have HE : Hid (X = F ∧ n = 1 + m ∧ e = 0) := Lib.hid (by simp only [Prod.mk.injEq] at hr; exact ⟨by simpa using hr.1.symm, hr.2.1.symm, hr.2.2.symm⟩)
            clear hr hle hT h hs
            have hc : Hid (SB (w.alloc (.cells #[.int .u64 0, .int .u64 0, .int .u64 0, .int .u64 0] 67)) w.heap.size 0 ∧ Below w.heap.size w (w.alloc (.cells #[.int .u64 0, .int .u64 0, .int .u64 0, .int .u64 0] 67))) := Lib.hid ⟨SB.zero w, (Below.refl _ _).alloc (Nat.le_refl _) _⟩
            go_enter Try.func40, Try.ntmps40
            go_upto_region 1 with fail
            revert hc
            generalize w.alloc (.cells #[.int .u64 0, .int .u64 0, .int .u64 0, .int .u64 0] 67) = W
            intro hc
            go_upto_region 9 with (go_at_call 45; refine (cs_rdL u lu HU.out.2.1 HU.out.1 F m 0 HU.out.2.2 _).mono ?_; rintro e W1 ⟨rfl, hb1⟩; unfold Cs.sv; have HB1 : Hid (SB W1 w.heap.size 0 ∧ Below w.heap.size w W1) := Lib.hid ⟨hc.out.1.below hb1, hc.out.2.trans (hb1.mono hc.out.2.size)⟩; clear hb1)
            have HB2 : Hid (SB (W1.alloc (.cells #[.int .u64 (Cs.wd F 0), .int .u64 (Cs.wd F 1), .int .u64 (Cs.wd F 2), .int .u64 (Cs.wd F 3)] 67)) W1.heap.size F ∧ SB (W1.alloc (.cells #[.int .u64 (Cs.wd F 0), .int .u64 (Cs.wd F 1), .int .u64 (Cs.wd F 2), .int .u64 (Cs.wd F 3)] 67)) w.heap.size 0 ∧ Below w.heap.size w (W1.alloc (.cells #[.int .u64 (Cs.wd F 0), .int .u64 (Cs.wd F 1), .int .u64 (Cs.wd F 2), .int .u64 (Cs.wd F 3)] 67)) ∧ w.heap.size < W1.heap.size) := Lib.hid ⟨SB.new W1 F, HB1.out.1.alloc _, HB1.out.2.alloc HB1.out.2.size _, HB1.out.1.lt⟩
            clear hc HB1
            revert HB2
            generalize W1.alloc (.cells #[.int .u64 (Cs.wd F 0), .int .u64 (Cs.wd F 1), .int .u64 (Cs.wd F 2), .int .u64 (Cs.wd F 3)] 67) = V
            generalize W1.heap.size = D
            intro HB2
            have hD := HB2.out.2.2.2
            replace HB2 : Hid (SB V D F ∧ SB V w.heap.size 0 ∧ Below w.heap.size w V) := Lib.hid ⟨HB2.out.1, HB2.out.2.1, HB2.out.2.2.1⟩
            have y0 := HB2.out.1.at (i := 0) (by decide)
            have y1 := HB2.out.1.at (i := 1) (by decide)
            have y2 := HB2.out.1.at (i := 2) (by decide)
            have y3 := HB2.out.1.at (i := 3) (by decide)
            have d0 := HB2.out.2.1.at (i := 0) (by decide)
            have d1 := HB2.out.2.1.at (i := 1) (by decide)
            have d2 := HB2.out.2.1.at (i := 2) (by decide)
            have d3 := HB2.out.2.1.at (i := 3) (by decide)
            have df0 := HB2.out.2.1.free 0
            have df1 := HB2.out.2.1.free 1
            have df2 := HB2.out.2.1.free 2
            have df3 := HB2.out.2.1.free 3
            go_wp2
            have hr := Lib.hid (HB2.out.2.1.res HB2.out.2.2 (Nat.le_refl _) F)
            clear y0 y1 y2 y3 d0 d1 d2 d3 df0 df1 df2 df3 HB2
            revert hr
            generalize (((V.setCell ⟨w.heap.size, 0, none⟩ (.int .u64 (Cs.wd F 0))).setCell ⟨w.heap.size, 1, none⟩ (.int .u64 (Cs.wd F 1))).setCell ⟨w.heap.size, 2, none⟩ (.int .u64 (Cs.wd F 2))).setCell ⟨w.heap.size, 3, none⟩ (.int .u64 (Cs.wd F 3)) = W9
            intro hr
            have c0 := hr.out.1.at (i := 0) (by decide)
            have c1 := hr.out.1.at (i := 1) (by decide)
            have c2 := hr.out.1.at (i := 2) (by decide)
            have c3 := hr.out.1.at (i := 3) (by decide)
            refine bodyPost_ret (v := .tuple #[.agg #[.int .u64 (Cs.wd F 0), .int .u64 (Cs.wd F 1), .int .u64 (Cs.wd F 2), .int .u64 (Cs.wd F 3)], .int .i64 (1 + (m : Int)), .int .i64 0]) (by simp [results, Try.results40, go_sem, c0, c1, c2, c3]) rfl ?_
            rw [HE.out.1, HE.out.2.1, HE.out.2.2]
            exact ⟨by rw [Int.natCast_add]; rfl, hr.out.2⟩
          · rw [if_pos hq] at hr
            have HE : Hid (X = 0 ∧ n = 1 + m ∧ e = q) := Lib.hid (by simp only [Prod.mk.injEq] at hr; exact ⟨hr.1.symm, hr.2.1.symm, hr.2.2.symm⟩)
            have kq : ((q : Int) != 0) = true := by rw [bne_iff_ne]; omega
            clear hr hle hT h hs hq
            have hc : Hid (SB (w.alloc (.cells #[.int .u64 0, .int .u64 0, .int .u64 0, .int .u64 0] 67)) w.heap.size 0 ∧ Below w.heap.size w (w.alloc (.cells #[.int .u64 0, .int .u64 0, .int .u64 0, .int .u64 0] 67))) := Lib.hid ⟨SB.zero w, (Below.refl _ _).alloc (Nat.le_refl _) _⟩
            go_enter Try.func40, Try.ntmps40
            go_upto_region 1 with fail
            revert hc
            generalize w.alloc (.cells #[.int .u64 0, .int .u64 0, .int .u64 0, .int .u64 0] 67) = W
            intro hc
            go_upto_region 9 with (go_at_call 45; refine (cs_rdL u lu HU.out.2.1 HU.out.1 F m q HU.out.2.2 _).mono ?_; rintro e W1 ⟨rfl, hb1⟩; unfold Cs.sv; have HB1 : Hid (SB W1 w.heap.size 0 ∧ Below w.heap.size w W1) := Lib.hid ⟨hc.out.1.below hb1, hc.out.2.trans (hb1.mono hc.out.2.size)⟩; clear hb1)
            have HB2 : Hid (SB (W1.alloc (.cells #[.int .u64 (Cs.wd F 0), .int .u64 (Cs.wd F 1), .int .u64 (Cs.wd F 2), .int .u64 (Cs.wd F 3)] 67)) W1.heap.size F ∧ SB (W1.alloc (.cells #[.int .u64 (Cs.wd F 0), .int .u64 (Cs.wd F 1), .int .u64 (Cs.wd F 2), .int .u64 (Cs.wd F 3)] 67)) w.heap.size 0 ∧ Below w.heap.size w (W1.alloc (.cells #[.int .u64 (Cs.wd F 0), .int .u64 (Cs.wd F 1), .int .u64 (Cs.wd F 2), .int .u64 (Cs.wd F 3)] 67)) ∧ w.heap.size < W1.heap.size) := Lib.hid ⟨SB.new W1 F, HB1.out.1.alloc _, HB1.out.2.alloc HB1.out.2.size _, HB1.out.1.lt⟩
            clear hc HB1
            revert HB2
            generalize W1.alloc (.cells #[.int .u64 (Cs.wd F 0), .int .u64 (Cs.wd F 1), .int .u64 (Cs.wd F 2), .int .u64 (Cs.wd F 3)] 67) = V
            generalize W1.heap.size = D
            intro HB2
            have hD := HB2.out.2.2.2
            replace HB2 : Hid (SB V D F ∧ SB V w.heap.size 0 ∧ Below w.heap.size w V) := Lib.hid ⟨HB2.out.1, HB2.out.2.1, HB2.out.2.2.1⟩
            have d0 := HB2.out.2.1.at (i := 0) (by decide)
            have d1 := HB2.out.2.1.at (i := 1) (by decide)
            have d2 := HB2.out.2.1.at (i := 2) (by decide)
            have d3 := HB2.out.2.1.at (i := 3) (by decide)
            have df0 := HB2.out.2.1.free 0
            have df1 := HB2.out.2.1.free 1
            have df2 := HB2.out.2.1.free 2
            have df3 := HB2.out.2.1.free 3
            go_wp2
            have hr := Lib.hid (show SB ((((V.setCell ⟨w.heap.size, 0, none⟩ (.int .u64 0)).setCell ⟨w.heap.size, 1, none⟩ (.int .u64 0)).setCell ⟨w.heap.size, 2, none⟩ (.int .u64 0)).setCell ⟨w.heap.size, 3, none⟩ (.int .u64 0)) w.heap.size 0 ∧ Below w.heap.size w ((((V.setCell ⟨w.heap.size, 0, none⟩ (.int .u64 0)).setCell ⟨w.heap.size, 1, none⟩ (.int .u64 0)).setCell ⟨w.heap.size, 2, none⟩ (.int .u64 0)).setCell ⟨w.heap.size, 3, none⟩ (.int .u64 0)) from HB2.out.2.1.res HB2.out.2.2 (Nat.le_refl _) 0)
            clear d0 d1 d2 d3 df0 df1 df2 df3 HB2
            revert hr
            generalize (((V.setCell ⟨w.heap.size, 0, none⟩ (.int .u64 0)).setCell ⟨w.heap.size, 1, none⟩ (.int .u64 0)).setCell ⟨w.heap.size, 2, none⟩ (.int .u64 0)).setCell ⟨w.heap.size, 3, none⟩ (.int .u64 0) = W9
            intro hr
            have c0 := hr.out.1.at (i := 0) (by decide)
            have c1 := hr.out.1.at (i := 1) (by decide)
            have c2 := hr.out.1.at (i := 2) (by decide)
            have c3 := hr.out.1.at (i := 3) (by decide)
            refine bodyPost_ret (v := .tuple #[.agg #[.int .u64 (Cs.wd 0 0), .int .u64 (Cs.wd 0 1), .int .u64 (Cs.wd 0 2), .int .u64 (Cs.wd 0 3)], .int .i64 (1 + (m : Int)), .int .i64 q]) (by simp [results, Try.results40, go_sem, c0, c1, c2, c3]) rfl ?_
            rw [HE.out.1, HE.out.2.1, HE.out.2.2]
            exact ⟨by rw [Int.natCast_add]; rfl, hr.out.2⟩
    · rw [if_pos hb] at hr
      simp only [Prod.mk.injEq] at hr
      obtain ⟨rfl, rfl, rfl⟩ := hr
      have c0 : (s[0].toNat : Int) = b.toNat := by rw [e0]
      have k1 : ((b.toNat : Int) != 91) = true := by rw [bne_iff_ne]; exact fun e => hb (u8_eq e)
      clear e0 h hs hN hN1 hb
      have hc : Hid (SB (w.alloc (.cells #[.int .u64 0, .int .u64 0, .int .u64 0, .int .u64 0] 67)) w.heap.size 0 ∧ Below w.heap.size w (w.alloc (.cells #[.int .u64 0, .int .u64 0, .int .u64 0, .int .u64 0] 67))) := Lib.hid ⟨SB.zero w, (Below.refl _ _).alloc (Nat.le_refl _) _⟩
      go_enter Try.func40, Try.ntmps40
      go_upto_region 1 with fail
      revert hc
      generalize w.alloc (.cells #[.int .u64 0, .int .u64 0, .int .u64 0, .int .u64 0] 67) = W
      intro hc
      have d0 := hc.out.1.at (i := 0) (by decide)
      have d1 := hc.out.1.at (i := 1) (by decide)
      have d2 := hc.out.1.at (i := 2) (by decide)
      have d3 := hc.out.1.at (i := 3) (by decide)
      have df0 := hc.out.1.free 0
      have df1 := hc.out.1.free 1
      have df2 := hc.out.1.free 2
      have df3 := hc.out.1.free 3
      go_wp2
      have hr := Lib.hid (show SB ((((W.setCell ⟨w.heap.size, 0, none⟩ (.int .u64 0)).setCell ⟨w.heap.size, 1, none⟩ (.int .u64 0)).setCell ⟨w.heap.size, 2, none⟩ (.int .u64 0)).setCell ⟨w.heap.size, 3, none⟩ (.int .u64 0)) w.heap.size 0 ∧ Below w.heap.size w ((((W.setCell ⟨w.heap.size, 0, none⟩ (.int .u64 0)).setCell ⟨w.heap.size, 1, none⟩ (.int .u64 0)).setCell ⟨w.heap.size, 2, none⟩ (.int .u64 0)).setCell ⟨w.heap.size, 3, none⟩ (.int .u64 0)) from hc.out.1.res hc.out.2 (Nat.le_refl _) 0)
      clear d0 d1 d2 d3 df0 df1 df2 df3 hc
      revert hr
      generalize (((W.setCell ⟨w.heap.size, 0, none⟩ (.int .u64 0)).setCell ⟨w.heap.size, 1, none⟩ (.int .u64 0)).setCell ⟨w.heap.size, 2, none⟩ (.int .u64 0)).setCell ⟨w.heap.size, 3, none⟩ (.int .u64 0) = W9
      intro hr
      have c0 := hr.out.1.at (i := 0) (by decide)
      have c1 := hr.out.1.at (i := 1) (by decide)
      have c2 := hr.out.1.at (i := 2) (by decide)
      have c3 := hr.out.1.at (i := 3) (by decide)
      refine bodyPost_ret (v := .tuple #[.agg #[.int .u64 (Cs.wd 0 0), .int .u64 (Cs.wd 0 1), .int .u64 (Cs.wd 0 2), .int .u64 (Cs.wd 0 3)], .int .i64 0, .int .i64 2]) (by simp [results, Try.results40, go_sem, c0, c1, c2, c3]) rfl ?_
      exact ⟨rfl, hr.out.2⟩
end Go.Proofs.Ytoniipmgkoogbaa
