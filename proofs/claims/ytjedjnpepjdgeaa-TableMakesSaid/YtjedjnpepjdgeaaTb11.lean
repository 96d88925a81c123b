/- Tables: the document's Seek. -/
import Derived.Test.YtjedjnpepjdgeaaTb10
namespace Go.Proofs.Ytjedjnpepjdgeaa
open Go.ChangeShapes Go.WideShapes Go.ChangeAt Go.RowKit
set_option linter.unusedSimpArgs false
set_option linter.unusedVariables false

theorem mx_at (f g : Nat → Bool) (k j : Nat) {a b v : Bool} (hf : f k = a) (hg : g k = b) (hv : (a || b) = v) : (f j || (decide (j < k + 1) && g j)) = if j = k then v else (f j || (decide (j < k) && g j)) := by
  by_cases h : j = k
  · subst h; rw [if_pos rfl, hf, hg, ← hv]; simp
  · rw [if_neg h]
    by_cases h2 : j < k
    · rw [decide_eq_true h2, decide_eq_true (show j < k + 1 by omega)]
    · rw [decide_eq_false h2, decide_eq_false (show ¬ j < k + 1 by omega)]
set_option maxRecDepth 20000 in
set_option maxHeartbeats 8000000 in
theorem r9_seek (l : List (Bool × BitVec 256)) (n : Nat) (a : Option Addr) (c : Nat) (hn : l.length = n) (hn6 : n ≤ 62) (X : BitVec 64) (x : Int) (hx : (X.toNat : Int) = x) (cc : UInt8) (b : Nat) (hb : cc.toNat = b) (Y : BitVec 64) (y : Int) (hY : Tb.seek n (Tb.mk (Tb.rf l) n) (Tb.mk (Tb.hf l b) n) X = Y) (hy : (Y.toNat : Int) = y) (w : World) (hI : IA w a l) :
    Calls Try.prog 42 #[.slice a n c, .int .u64 x, .int .u8 b] w fun e w' => e = .returned (.int .u64 y) ∧ Below w.heap.size w w' := by
  have HG := Lib.hid (And.intro hI hn)
  have HW : Hid (IA w a l ∧ (X.toNat : Int) = x ∧ ((1 : BitVec 64).toNat : Int) = 1) := Lib.hid ⟨hI, hx, rfl⟩
  obtain ⟨S, hS⟩ : ∃ S, Tb.step n (Tb.mk (Tb.rf l) n) (Tb.mk (Tb.hf l b) n) X = S := ⟨_, rfl⟩
  obtain ⟨sv, hsv⟩ : ∃ x : Int, (S.toNat : Int) = x := ⟨_, rfl⟩
  have HY : Hid (Tb.mk (fun k => Lg.P (lgL l) S.getLsbD k || Lg.P (lgL l) (1 : BitVec 64).getLsbD k) (n + 1) = Y ∧ (Y.toNat : Int) = y) := Lib.hid ⟨by rw [← hY, seek_eq l n hn6, hS], hy⟩
  have HS : Hid (Tb.step n (Tb.mk (Tb.rf l) n) (Tb.mk (Tb.hf l b) n) X = S ∧ (S.toNat : Int) = sv) := Lib.hid ⟨hS, hsv⟩
  have HV := Lib.hid hb
  clear hI hn hx hY hy hS hsv hb
  go_enter Try.func42, Try.ntmps42
  go_upto_region 2 with (first
    | (go_at_call 40; with_reducible refine (r9_step l n a c HG.out.2 hn6 X x HW.out.2.1 cc b HV.out S sv HS.out.1 HS.out.2 _ HW.out.1).mono ?_; rintro e W1 ⟨rfl, hb1⟩; have HS1 := Lib.hid (And.intro (HW.out.1.below hb1) hb1); clear hb1)
    | (go_at_call 70; with_reducible refine (r9_numbers l n a c HG.out.2 (by omega) S sv HS.out.2 _ HS1.out.1).mono ?_; rintro e W2 ⟨g1, c1, rfl, kg, kr, hb1⟩; have HA := Lib.hid (And.intro (HS1.out.1.below hb1) (And.intro kr (And.intro (HS1.out.2.trans (hb1.mono HS1.out.2.size)) (And.intro kg kr.lt)))); clear kg kr hb1)
    | (go_at_call 70; with_reducible refine (r9_numbers l n a c HG.out.2 (by omega) 1 1 HW.out.2.2 _ HA.out.1).mono ?_; rintro e W3 ⟨g2, c2, rfl, kg, kr, hb1⟩; have HB0 := Lib.hid (And.intro kg (And.intro kr hb1)); clear kg kr hb1))
  have hgne : g2 ≠ g1 := by have := HA.out.2.2.2.2; have := HB0.out.1; omega
  have hg1w : w.heap.size ≤ g1 := by have := HS1.out.2.size; have := HA.out.2.2.2.1; omega
  have HB : Hid (Rw W3 g1 c1 (bl (fun j => Lg.P (lgL l) S.getLsbD j || (decide (j < 0) && Lg.P (lgL l) (1 : BitVec 64).getLsbD j)) (n + 1)) 4 ∧ Rw W3 g2 c2 (bl (Lg.P (lgL l) (1 : BitVec 64).getLsbD) (n + 1)) 4 ∧ Below w.heap.size w W3) := Lib.hid ⟨bl_eq (HA.out.2.1.fresh HB0.out.2.2) (fun j hj => by simp), HB0.out.2.1, HA.out.2.2.1.trans (HB0.out.2.2.mono HA.out.2.2.1.size)⟩
  clear HA HB0
  go_wp2_with fail
  go_loopw [9] (fun i wr => ∃ k : Nat, i = .int .i64 k ∧ k ≤ n + 1 ∧ Hid (Rw wr g1 c1 (bl (fun j => Lg.P (lgL l) S.getLsbD j || (decide (j < k) && Lg.P (lgL l) (1 : BitVec 64).getLsbD j)) (n + 1)) 4 ∧ Rw wr g2 c2 (bl (Lg.P (lgL l) (1 : BitVec 64).getLsbD) (n + 1)) 4 ∧ Below w.heap.size w wr)) (fun i _ => n + 1 - (intOf i).toNat)
  case atStart => exact ⟨0, rfl, by omega, HB⟩
  case round =>
    clear HB
    obtain ⟨k, rfl, hk, HB⟩ := hrel
    have k0 : (0 : Int) ≤ (k : Int) := by omega
    by_cases hkl : k < n + 1
    · obtain ⟨fk, hfk⟩ : ∃ b, Lg.P (lgL l) S.getLsbD k = b := ⟨_, rfl⟩
      obtain ⟨gk, hgk⟩ : ∃ b, Lg.P (lgL l) (1 : BitVec 64).getLsbD k = b := ⟨_, rfl⟩
      have ca := HB.out.1.cell (bl_at (fun j => Lg.P (lgL l) S.getLsbD j || (decide (j < k) && Lg.P (lgL l) (1 : BitVec 64).getLsbD j)) (n := n + 1) (i := k) (by omega))
      have cb := HB.out.2.1.cell (bl_at (Lg.P (lgL l) (1 : BitVec 64).getLsbD) (n := n + 1) (i := k) (by omega))
      rw [hgk] at cb
      have e : (Lg.P (lgL l) S.getLsbD k || (decide (k < k) && Lg.P (lgL l) (1 : BitVec 64).getLsbD k)) = fk := by rw [hfk, decide_eq_false (Nat.lt_irrefl k)]; simp
      rw [e] at ca
      have cf := HB.out.1.free k
      have HK := Lib.hid (And.intro hfk hgk)
      have k2 : (k : Int) < (n : Int) + 1 := by omega
      have w1 : IntKind.i64.wrap ((k : Int) + 1) = (k : Int) + 1 := IntWalk.i64_in _ (by omega)
      clear hfk hgk e
      cases fk with
      | true =>
        have HN : Hid (Rw (wr.setCell ⟨g1, k, none⟩ (.bool true)) g1 c1 (bl (fun j => Lg.P (lgL l) S.getLsbD j || (decide (j < (k + 1)) && Lg.P (lgL l) (1 : BitVec 64).getLsbD j)) (n + 1)) 4 ∧ Rw (wr.setCell ⟨g1, k, none⟩ (.bool true)) g2 c2 (bl (Lg.P (lgL l) (1 : BitVec 64).getLsbD) (n + 1)) 4 ∧ Below w.heap.size w (wr.setCell ⟨g1, k, none⟩ (.bool true))) := Lib.hid ⟨flip_n HB.out.1 (by omega) (fun j _ => mx_at _ _ _ _ HK.out.1 HK.out.2 (by simp)), HB.out.2.1.other hgne _ _, below_set HB.out.2.2 hg1w _ _⟩
        go_wp2
        refine ⟨?_, ?measure⟩
        case measure => simp [intOf]; omega
        first
          | exact ⟨k + 1, by go_num, by omega, HN⟩
          | ((repeat apply Exists.intro); exact ⟨⟨k + 1, by go_num, by omega, HN⟩, rfl⟩)
      | false =>
        have HN : Hid (Rw (wr.setCell ⟨g1, k, none⟩ (.bool gk)) g1 c1 (bl (fun j => Lg.P (lgL l) S.getLsbD j || (decide (j < (k + 1)) && Lg.P (lgL l) (1 : BitVec 64).getLsbD j)) (n + 1)) 4 ∧ Rw (wr.setCell ⟨g1, k, none⟩ (.bool gk)) g2 c2 (bl (Lg.P (lgL l) (1 : BitVec 64).getLsbD) (n + 1)) 4 ∧ Below w.heap.size w (wr.setCell ⟨g1, k, none⟩ (.bool gk))) := Lib.hid ⟨flip_n HB.out.1 (by omega) (fun j _ => mx_at _ _ _ _ HK.out.1 HK.out.2 (by simp)), HB.out.2.1.other hgne _ _, below_set HB.out.2.2 hg1w _ _⟩
        go_wp2
        refine ⟨?_, ?measure⟩
        case measure => simp [intOf]; omega
        first
          | exact ⟨k + 1, by go_num, by omega, HN⟩
          | ((repeat apply Exists.intro); exact ⟨⟨k + 1, by go_num, by omega, HN⟩, rfl⟩)
    · obtain rfl : k = n + 1 := by omega
      have HE : Hid (Rw wr g1 c1 (bl (fun k => Lg.P (lgL l) S.getLsbD k || Lg.P (lgL l) (1 : BitVec 64).getLsbD k) (n + 1)) 4 ∧ Below w.heap.size w wr) := Lib.hid ⟨bl_eq HB.out.1 (fun j hj => by rw [decide_eq_true hj]; simp), HB.out.2.2⟩
      clear HB
      go_wp2_with (go_at_call 69; with_reducible refine (r9_pack _ (n + 1) (by omega) g1 c1 Y y HY.out.1 HY.out.2 _ HE.out.1).mono ?_; rintro e W2 ⟨rfl, rfl⟩)
      go_ret
      exact ⟨rfl, HE.out.2⟩
end Go.Proofs.Ytjedjnpepjdgeaa
