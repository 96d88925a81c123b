/- Tables: a byte more. -/
import Derived.Test.YtjedjnpepjdgeaaTb2
namespace Go.Proofs.Ytjedjnpepjdgeaa
open Go.ChangeShapes Go.WideShapes Go.ChangeAt Go.RowKit
set_option linter.unusedSimpArgs false
set_option linter.unusedVariables false

theorem tb_whole2 (p n : Nat) (R : BitVec 64) (H : Nat → BitVec 64) (hn : n ≤ 62) (X : BitVec 64) (x : Int) (hx : (X.toNat : Int) = x) (Y : BitVec 64) (y : Int) (hY : Tb.whole n R X = Y) (hy : (Y.toNat : Int) = y) (w : World) (h : TB w p n R H) :
    Calls Try.prog 68 #[.pointer (some ⟨p, 0, none⟩), .int .u64 x] w fun e w' => e = .returned (.int .u64 y) ∧ Below w.heap.size w w' := by
  subst hx
  subst hy
  refine (tb_whole p n R H hn X w h Y hY).mono ?_
  rintro e w' ⟨he, rfl⟩
  exact ⟨he, Below.refl _ _⟩
/-- The state at the beginning. -/
def Tb.start (n : Nat) (R : BitVec 64) : BitVec 64 := Tb.whole n R 1
/-- The state behind a byte more. -/
def Tb.step (n : Nat) (R Hb X : BitVec 64) : BitVec 64 := Tb.whole n R ((Tb.whole n R X &&& R) ||| ((Tb.whole n R X &&& Hb) <<< 1))
theorem tb_start (p n : Nat) (R : BitVec 64) (H : Nat → BitVec 64) (hn : n ≤ 62) (Y : BitVec 64) (y : Int) (hY : Tb.start n R = Y) (hy : (Y.toNat : Int) = y) (w : World) (h : TB w p n R H) :
    Calls Try.prog 37 #[.pointer (some ⟨p, 0, none⟩)] w fun e w' => e = .returned (.int .u64 y) ∧ Below w.heap.size w w' := by
  have HH := Lib.hid (And.intro h (And.intro (show Tb.whole n R 1 = Y from hY) (And.intro hy (show ((1 : BitVec 64).toNat : Int) = 1 from rfl))))
  clear h hY hy
  go_enter Try.func37, Try.ntmps37
  go_wp2_with (go_at_call 68; with_reducible refine (tb_whole2 p n R H hn 1 1 HH.out.2.2.2 Y y HH.out.2.1 HH.out.2.2.1 _ HH.out.1).mono ?_; rintro e W1 ⟨rfl, hb1⟩; have HB := Lib.hid hb1; clear hb1)
  go_ret
  exact ⟨rfl, HB.out⟩
set_option maxRecDepth 20000 in
set_option maxHeartbeats 4000000 in
theorem tb_step (p n : Nat) (R : BitVec 64) (H : Nat → BitVec 64) (hn : n ≤ 62) (X : BitVec 64) (x : Int) (hx : (X.toNat : Int) = x) (b : Nat) (hb : b < 256) (Y : BitVec 64) (y : Int) (hY : Tb.step n R (H b) X = Y) (hy : (Y.toNat : Int) = y) (w : World) (h : TB w p n R H) :
    Calls Try.prog 39 #[.pointer (some ⟨p, 0, none⟩), .int .u64 x, .int .u8 b] w fun e w' => e = .returned (.int .u64 y) ∧ Below w.heap.size w w' := by
  obtain ⟨W, hW⟩ : ∃ W, Tb.whole n R X = W := ⟨_, rfl⟩
  obtain ⟨wv, hwv⟩ : ∃ x : Int, (W.toNat : Int) = x := ⟨_, rfl⟩
  obtain ⟨r, hr⟩ : ∃ x : Int, (R.toNat : Int) = x := ⟨_, rfl⟩
  obtain ⟨hb', hhb⟩ : ∃ x : Int, ((H b).toNat : Int) = x := ⟨_, rfl⟩
  obtain ⟨m1, hm1⟩ : ∃ x : Int, ((W &&& R).toNat : Int) = x := ⟨_, rfl⟩
  obtain ⟨m2, hm2⟩ : ∃ x : Int, ((W &&& H b).toNat : Int) = x := ⟨_, rfl⟩
  obtain ⟨m3, hm3⟩ : ∃ x : Int, (((W &&& H b) <<< 1).toNat : Int) = x := ⟨_, rfl⟩
  obtain ⟨V, hV⟩ : ∃ V, (W &&& R) ||| ((W &&& H b) <<< 1) = V := ⟨_, rfl⟩
  obtain ⟨v, hv⟩ : ∃ x : Int, (V.toNat : Int) = x := ⟨_, rfl⟩
  have a1 : bits BinOp.and IntKind.u64 wv r = m1 := by rw [← hwv, ← hr, ← hm1]; exact u_and W R
  have a2 : bits BinOp.and IntKind.u64 wv hb' = m2 := by rw [← hwv, ← hhb, ← hm2]; exact u_and W (H b)
  have a3 : IntKind.u64.wrap (m2 * 2) = m3 := by rw [← hm2, ← hm3]; exact u_shl1 _
  have a4 : bits BinOp.or IntKind.u64 m1 m3 = v := by rw [← hm1, ← hm3, ← hv, ← hV]; exact u_or _ _
  have HH := Lib.hid (And.intro h (And.intro (show Tb.whole n R V = Y by rw [← hY, ← hV, ← hW]; rfl) (And.intro hy (And.intro hW (And.intro hwv (And.intro hv hx))))))
  have HRR := Lib.hid (And.intro hr hhb)
  have c1 := h.c1
  have ch := h.ch hb
  rw [hr] at c1
  rw [hhb] at ch
  have b0 : (0 : Int) ≤ (b : Int) := by omega
  have b2 : (b : Int) < 256 := by omega
  clear h hY hy hW hwv hr hhb hm1 hm2 hm3 hV hv hx
  go_enter Try.func39, Try.ntmps39
  go_upto_region 4 with (go_at_call 68; with_reducible refine (tb_whole2 p n R H hn X x HH.out.2.2.2.2.2.2 W wv HH.out.2.2.2.1 HH.out.2.2.2.2.1 _ HH.out.1).mono ?_; rintro e W1 ⟨rfl, hb1⟩; have HT : Hid (TB W1 p n R H ∧ Below w.heap.size w W1) := Lib.hid ⟨HH.out.1.below hb1, hb1⟩; clear hb1 c1 ch)
  have c1 := HT.out.1.c1
  have ch := HT.out.1.ch hb
  rw [HRR.out.1] at c1
  rw [HRR.out.2] at ch
  replace HT : Hid (TB W1.drew p n R H ∧ Below w.heap.size w W1.drew) := Lib.hid ⟨HT.out.1, HT.out.2.drew⟩
  first | go_region_with (go_at_call 68; with_reducible refine (tb_whole2 p n R H hn V v HH.out.2.2.2.2.2.1 Y y HH.out.2.1 HH.out.2.2.1 _ HT.out.1).mono ?_; rintro e W2 ⟨rfl, hb1⟩; replace HT := Lib.hid (HT.out.2.trans (hb1.mono HT.out.2.size)); clear hb1) | fail
  all_goals (
    go_wp2
    go_ret
    exact ⟨rfl, HT.out⟩)
/-- The state behind a byte more, begun anew. -/
def Tb.seek (n : Nat) (R Hb X : BitVec 64) : BitVec 64 := Tb.step n R Hb X ||| Tb.start n R
theorem tb_seek (p n : Nat) (R : BitVec 64) (H : Nat → BitVec 64) (hn : n ≤ 62) (X : BitVec 64) (x : Int) (hx : (X.toNat : Int) = x) (b : Nat) (hb : b < 256) (Y : BitVec 64) (y : Int) (hY : Tb.seek n R (H b) X = Y) (hy : (Y.toNat : Int) = y) (w : World) (h : TB w p n R H) :
    Calls Try.prog 41 #[.pointer (some ⟨p, 0, none⟩), .int .u64 x, .int .u8 b] w fun e w' => e = .returned (.int .u64 y) ∧ Below w.heap.size w w' := by
  obtain ⟨V, hV⟩ : ∃ V, Tb.step n R (H b) X = V := ⟨_, rfl⟩
  obtain ⟨S, hS⟩ : ∃ S, Tb.start n R = S := ⟨_, rfl⟩
  obtain ⟨v, hv⟩ : ∃ x : Int, (V.toNat : Int) = x := ⟨_, rfl⟩
  obtain ⟨s, hs⟩ : ∃ x : Int, (S.toNat : Int) = x := ⟨_, rfl⟩
  have a4 : bits BinOp.or IntKind.u64 v s = y := by rw [← hv, ← hs, ← hy, ← hY, ← hV, ← hS]; exact u_or _ _
  have HH := Lib.hid (And.intro h (And.intro hx (And.intro hV (And.intro hv (And.intro hS hs)))))
  clear h hY hy hV hS hv hs hx
  go_enter Try.func41, Try.ntmps41
  go_wp2_with (first
    | (go_at_call 39; with_reducible refine (tb_step p n R H hn X x HH.out.2.1 b hb V v HH.out.2.2.1 HH.out.2.2.2.1 _ HH.out.1).mono ?_; rintro e W1 ⟨rfl, hb1⟩; have HT := Lib.hid (And.intro (TB.below HH.out.1 hb1) hb1); clear hb1)
    | (go_at_call 37; with_reducible refine (tb_start p n R H hn S s HH.out.2.2.2.2.1 HH.out.2.2.2.2.2 _ HT.out.1).mono ?_; rintro e W2 ⟨rfl, hb1⟩; replace HT := Lib.hid (HT.out.2.trans (hb1.mono HT.out.2.size)); clear hb1))
  go_ret
  exact ⟨rfl, HT.out⟩
theorem u_shr (Y : BitVec 64) (n : Nat) : ((Y.toNat : Int) / 2 ^ n) = ((Y >>> n).toNat : Int) := by
  rw [BitVec.toNat_ushiftRight, Nat.shiftRight_eq_div_pow]
  push_cast; rfl
theorem u_test (Y : BitVec 64) (n : Nat) (b : Bool) (hb : Y.getLsbD n = b) : bits BinOp.and IntKind.u64 ((Y >>> n).toNat : Int) 1 = if b then 1 else 0 := by
  have h := u_and (Y >>> n) 1
  rw [show (((1 : BitVec 64)).toNat : Int) = 1 from rfl] at h
  rw [h]
  have e : (Y >>> n) &&& 1 = if b then 1 else 0 := by
    apply u_ext
    intro i hi
    rw [BitVec.getLsbD_and, BitVec.getLsbD_ushiftRight]
    cases i with
    | zero => cases b <;> simp [hb]
    | succ i => cases b <;> simp [BitVec.getLsbD_one]
  rw [e]
  cases b <;> rfl
set_option maxRecDepth 20000 in
set_option maxHeartbeats 4000000 in
theorem tb_done (p n : Nat) (R : BitVec 64) (H : Nat → BitVec 64) (hn : n ≤ 62) (X : BitVec 64) (x : Int) (hx : (X.toNat : Int) = x) (b : Bool) (hb : (Tb.whole n R X).getLsbD n = b) (w : World) (h : TB w p n R H) :
    Calls Try.prog 43 #[.pointer (some ⟨p, 0, none⟩), .int .u64 x] w fun e w' => e = .returned (.bool b) ∧ Below w.heap.size w w' := by
  obtain ⟨W, hW⟩ : ∃ W, Tb.whole n R X = W := ⟨_, rfl⟩
  rw [hW] at hb
  obtain ⟨wv, hwv⟩ : ∃ x : Int, (W.toNat : Int) = x := ⟨_, rfl⟩
  obtain ⟨sv, hsv⟩ : ∃ x : Int, ((W >>> n).toNat : Int) = x := ⟨_, rfl⟩
  have a1 : wv / 2 ^ n = sv := by rw [← hwv, ← hsv]; exact u_shr W n
  have a2 : bits BinOp.and IntKind.u64 sv 1 = if b then 1 else 0 := by rw [← hsv]; exact u_test W n b hb
  have HH : Hid (TB w.drew p n R H ∧ (X.toNat : Int) = x ∧ Tb.whole n R X = W ∧ (W.toNat : Int) = wv) := Lib.hid ⟨h, hx, hW, hwv⟩
  have HD : Hid (∀ W2, Below w.drew.heap.size w.drew W2 → Below w.heap.size w W2) := Lib.hid (fun W2 h => ((Below.refl w.heap.size w).drew).trans h)
  have c0 := h.c0
  clear h hx hW hwv hsv hb
  cases b with
  | true =>
    rw [if_pos rfl] at a2
    go_enter Try.func43, Try.ntmps43
    go_wp2_with fail
    first | go_region_with (go_at_call 68; with_reducible refine (tb_whole2 p n R H hn X x HH.out.2.1 W wv HH.out.2.2.1 HH.out.2.2.2 _ HH.out.1).mono ?_; rintro e W2 ⟨rfl, hb1⟩; clear c0; have c0 := (TB.below HH.out.1 hb1).c0; have HT := Lib.hid (HD.out W2 hb1); clear hb1) | fail
    all_goals (
      go_wp2
      go_ret
      exact ⟨rfl, HT.out⟩)
  | false =>
    rw [if_neg (by simp)] at a2
    go_enter Try.func43, Try.ntmps43
    go_wp2_with fail
    first | go_region_with (go_at_call 68; with_reducible refine (tb_whole2 p n R H hn X x HH.out.2.1 W wv HH.out.2.2.1 HH.out.2.2.2 _ HH.out.1).mono ?_; rintro e W2 ⟨rfl, hb1⟩; clear c0; have c0 := (TB.below HH.out.1 hb1).c0; have HT := Lib.hid (HD.out W2 hb1); clear hb1) | fail
    all_goals (
      go_wp2
      go_ret
      exact ⟨rfl, HT.out⟩)
end Go.Proofs.Ytjedjnpepjdgeaa
