/- Tables: the table of a pattern. -/
import Derived.Test.YtjedjnpepjdgeaaTb3
import Derived.Test.YtjedjnpepjdgeaaTb4
namespace Go.Proofs.Ytjedjnpepjdgeaa
open Go.ChangeShapes Go.WideShapes Go.ChangeAt Go.RowKit
set_option linter.unusedSimpArgs false
set_option linter.unusedVariables false

/-- The runs of a pattern, and which of its sets have a byte. -/
def Tb.rf (l : List (Bool × BitVec 256)) (k : Nat) : Bool := (lgL l k).1
def Tb.hf (l : List (Bool × BitVec 256)) (b k : Nat) : Bool := !(lgL l k).1 && (lgL l k).2.getLsbD b
/-- A pattern's table, so far. -/
def TP (w : World) (p : Nat) (l : List (Bool × BitVec 256)) (n k : Nat) : Prop := TB w p n (Tb.mk (Tb.rf l) k) (fun b => Tb.mk (Tb.hf l b) k)
theorem TB.congr {w : World} {p n : Nat} {R R' : BitVec 64} {H H' : Nat → BitVec 64} (h : TB w p n R H) (hR : R = R') (hH : ∀ j, j < 256 → H j = H' j) : TB w p n R' H' := by
  subst hR
  have e : tbc n R H = tbc n R H' := by
    unfold tbc
    congr 2
    exact List.map_congr_left fun j hj => by rw [hH j (List.mem_range.1 hj)]
  unfold TB at h ⊢
  rw [← e]; exact h
theorem memT_any (X : BitVec 256) (b : Nat) (hb : b < 256) : ((Cs.memT X 256).any fun c => c.toNat == b) = X.getLsbD b := by
  apply bool_iff
  rw [List.any_eq_true]
  unfold Cs.memT
  constructor
  · rintro ⟨c, hc, h⟩
    rw [List.mem_map] at hc
    obtain ⟨j, hj, e⟩ := hc
    rw [List.mem_filter] at hj
    have hj2 := List.mem_range.1 hj.1
    rw [← e, UInt8.toNat_ofNat', show j % 2 ^ 8 = j by omega, beq_iff_eq] at h
    rw [← h]; exact hj.2
  · intro h
    exact ⟨UInt8.ofNat b, List.mem_map.2 ⟨b, List.mem_filter.2 ⟨List.mem_range.2 hb, h⟩, rfl⟩, by rw [UInt8.toNat_ofNat', show b % 2 ^ 8 = b by omega]; simp⟩
theorem TP.run {w : World} {p n k : Nat} {l : List (Bool × BitVec 256)} {X : BitVec 256} (h : TP w p l n k) (hl : lgL l k = (true, X)) {v : Int} (hv : ((Tb.mk (Tb.rf l) k ||| BitVec.twoPow 64 k).toNat : Int) = v) : TP (w.setCell ⟨p, 1, none⟩ (.int .u64 v)) p l n (k + 1) := by
  have h1 := TB.runs h hv
  refine TB.congr h1 ?_ ?_
  · rw [Tb.mk]
    unfold Tb.rf
    rw [hl, if_pos rfl]
  · intro j hj
    rw [Tb.mk]
    unfold Tb.hf
    rw [hl]; simp
theorem TP.set {w : World} {p n k : Nat} {l : List (Bool × BitVec 256)} {X : BitVec 256} (h : TB w p n (Tb.mk (Tb.rf l) k) (Tb.nt k (Cs.memT X 256) (fun b => Tb.mk (Tb.hf l b) k))) (hl : lgL l k = (false, X)) : TP w p l n (k + 1) := by
  refine TB.congr h ?_ ?_
  · rw [Tb.mk]
    unfold Tb.rf
    rw [hl]; simp
  · intro j hj
    unfold Tb.nt
    rw [memT_any X j hj, Tb.mk]
    unfold Tb.hf
    rw [hl]
    cases X.getLsbD j <;> simp
set_option maxRecDepth 100000 in
theorem TP.new (w : World) (l : List (Bool × BitVec 256)) (n : Nat) : TP (w.alloc (.cells (Try.zeroCells90.setIfInBounds 0 (.int .i64 n)) 90)) w.heap.size l n 0 := by
  have h := Blk.newA w (Try.zeroCells90.setIfInBounds 0 (.int .i64 n)) 90
  have e0 : Try.zeroCells90.toList = Value.int .i64 0 :: Value.int .u64 0 :: List.replicate 256 (Value.int .u64 0) := by kernel_rfl
  have e1 : ((Try.zeroCells90.setIfInBounds 0 (.int .i64 n))).toList = tbc n (Tb.mk (Tb.rf l) 0) (fun b => Tb.mk (Tb.hf l b) 0) := by
    rw [Array.toList_setIfInBounds, e0]
    unfold tbc
    simp only [Tb.mk, List.set_cons_zero]
    congr 2 <;> (first | rfl | (rw [List.map_const', List.length_range]; rfl))
  rw [e1] at h
  exact h
set_option maxRecDepth 20000 in
theorem tb_form (l : List (Bool × BitVec 256)) (hb : goodB l = false) (n : Nat) (a : Option Addr) (c : Nat) (hn : l.length = n) (hn6 : n ≤ 1000000) (w : World) (hI : IK w a l) :
    Calls Try.prog 34 #[.slice a n c] w fun e w' => e = .returned (.tuple #[.pointer none, .int .i64 2]) ∧ Below w.heap.size w w' := by
  have HG := Lib.hid (And.intro hb (And.intro hn hI.li))
  clear hb hn hI
  go_enter Try.func34, Try.ntmps34
  go_wp2_with (go_at_call 66; with_reducible refine (gl_good l false HG.out.1 a n c HG.out.2.1 hn6 _ HG.out.2.2).mono ?_; rintro e W1 ⟨rfl, hb1⟩; have HB := Lib.hid hb1; clear hb1)
  go_ret2
  exact ⟨rfl, HB.out⟩
set_option maxRecDepth 20000 in
theorem tb_empty (l : List (Bool × BitVec 256)) (hb : goodB l = true) (m : Nat) (hm : Lg.least l = m) (hm0 : decide (m = 0) = true) (n : Nat) (a : Option Addr) (c : Nat) (hn : l.length = n) (hn6 : n ≤ 1000000) (w : World) (hI : IK w a l) :
    Calls Try.prog 34 #[.slice a n c] w fun e w' => e = .returned (.tuple #[.pointer none, .int .i64 9]) ∧ Below w.heap.size w w' := by
  have HG := Lib.hid (And.intro hb (And.intro hn (And.intro hI (And.intro hm hm0))))
  clear hb hn hI hm hm0
  go_enter Try.func34, Try.ntmps34
  go_wp2_with (first
    | (go_at_call 66; with_reducible refine (gl_good l true HG.out.1 a n c HG.out.2.1 hn6 _ HG.out.2.2.1.li).mono ?_; rintro e W1 ⟨rfl, hb1⟩; have HB := Lib.hid (And.intro (IK.below HG.out.2.2.1 hb1) hb1); clear hb1)
    | (go_at_call 25; with_reducible refine (lg_empty2 l m HG.out.2.2.2.1 true HG.out.2.2.2.2 n a c HG.out.2.1 hn6 _ HB.out.1.ia).mono ?_; rintro e W2 ⟨rfl, hb1⟩; replace HB := Lib.hid (HB.out.2.trans (hb1.mono HB.out.2.size)); clear hb1))
  go_ret2
  exact ⟨rfl, HB.out⟩
set_option maxRecDepth 40000 in
set_option maxHeartbeats 16000000 in
theorem tb_compile (l : List (Bool × BitVec 256)) (hb : goodB l = true) (m : Nat) (hm : Lg.least l = m) (hm0 : decide (m = 0) = false) (n : Nat) (a : Option Addr) (c : Nat) (hn : l.length = n) (w : World) (hI : IK w a l) :
    Calls Try.prog 34 #[.slice a n c] w fun e w' => ∃ p, e = .returned (.tuple #[.pointer (some ⟨p, 0, none⟩), .int .i64 0]) ∧ TP w' p l n n ∧ Below w.heap.size w w' := by
  have hn60 : n ≤ 60 := by have := (goodB_ok hb).2; omega
  have hn6 : n ≤ 1000000 := by omega
  have HG := Lib.hid (And.intro hb (And.intro hn (And.intro hI (And.intro hm hm0))))
  clear hb hn hI hm hm0
  go_enter Try.func34, Try.ntmps34
  go_upto_region 5 with (first
    | (go_at_call 66; with_reducible refine (gl_good l true HG.out.1 a n c HG.out.2.1 hn6 _ HG.out.2.2.1.li).mono ?_; rintro e W1 ⟨rfl, hb1⟩; have HB := Lib.hid (And.intro (IK.below HG.out.2.2.1 hb1) hb1); clear hb1)
    | (go_at_call 25; with_reducible refine (lg_empty2 l m HG.out.2.2.2.1 false HG.out.2.2.2.2 n a c HG.out.2.1 hn6 _ HB.out.1.ia).mono ?_; rintro e W2 ⟨rfl, hb1⟩; replace HB := Lib.hid (HB.out.2.trans (hb1.mono HB.out.2.size)); clear hb1))
  have HT : Hid (TP (W2.alloc (.cells (Try.zeroCells90.setIfInBounds 0 (.int .i64 n)) 90)) W2.heap.size l n 0 ∧ Below w.heap.size w (W2.alloc (.cells (Try.zeroCells90.setIfInBounds 0 (.int .i64 n)) 90)) ∧ w.heap.size ≤ W2.heap.size) := Lib.hid ⟨TP.new W2 l n, HB.out.alloc HB.out.size _, HB.out.size⟩
  clear HB
  go_upto_region 6 with fail
  revert HT
  generalize W2.alloc (.cells (Try.zeroCells90.setIfInBounds 0 (.int .i64 n)) 90) = W3
  generalize W2.heap.size = p
  intro HT
  have hpw : w.heap.size ≤ p := HT.out.2.2
  replace HT : Hid (TP W3 p l n 0 ∧ Below w.heap.size w W3) := Lib.hid ⟨HT.out.1, HT.out.2.1⟩
  go_wp2_with fail
  go_loopw [18] (fun i wr => ∃ k : Nat, i = .int .i64 k ∧ k ≤ n ∧ Hid (TP wr p l n k ∧ Below w.heap.size w wr)) (fun i _ => n - (intOf i).toNat)
  case atStart => exact ⟨0, rfl, by omega, HT⟩
  case round =>
    clear HT
    obtain ⟨k, rfl, hk, HB⟩ := hrel
    have k0 : (0 : Int) ≤ (k : Int) := by omega
    by_cases hkl : k < n
    · obtain ⟨x, hx⟩ : ∃ x, l[k]? = some x := ⟨_, List.getElem?_eq_getElem (by rw [HG.out.2.1]; exact hkl)⟩
      obtain ⟨r, X⟩ := x
      have hIA : IA wr a l := HG.out.2.2.1.ia.below HB.out.2
      obtain ⟨gi, o, ha, hgi, z0, z1, z2, z3, z4⟩ := hIA.cell hx
      subst ha
      have HL : Hid (lgL l k = (r, X)) := Lib.hid (by unfold lgL; rw [hx]; rfl)
      dsimp only at z0 z1 z2 z3 z4
      have hd : Hid (TP (wr.alloc (.cells #[.bool r, .int .u64 (Cs.wd X 0), .int .u64 (Cs.wd X 1), .int .u64 (Cs.wd X 2), .int .u64 (Cs.wd X 3)] 41)) p l n k ∧ Below w.heap.size w (wr.alloc (.cells #[.bool r, .int .u64 (Cs.wd X 0), .int .u64 (Cs.wd X 1), .int .u64 (Cs.wd X 2), .int .u64 (Cs.wd X 3)] 41)) ∧ IB (wr.alloc (.cells #[.bool r, .int .u64 (Cs.wd X 0), .int .u64 (Cs.wd X 1), .int .u64 (Cs.wd X 2), .int .u64 (Cs.wd X 3)] 41)) wr.heap.size r X) := Lib.hid ⟨Blk.alloc HB.out.1 _, HB.out.2.alloc HB.out.2.size _, IB.new wr r X⟩
      clear hx hIA HB
      go_upto_region 9 with fail
      clear z0 z1 z2 z3 z4
      revert hd
      generalize wr.alloc (.cells #[.bool r, .int .u64 (Cs.wd X 0), .int .u64 (Cs.wd X 1), .int .u64 (Cs.wd X 2), .int .u64 (Cs.wd X 3)] 41) = V
      generalize wr.heap.size = D
      intro hd
      have yb := Blk.cell hd.out.2.2 (i := 0) rfl
      have y0 := Blk.cell hd.out.2.2 (i := 1) rfl
      have y1 := Blk.cell hd.out.2.2 (i := 2) rfl
      have y2 := Blk.cell hd.out.2.2 (i := 3) rfl
      have y3 := Blk.cell hd.out.2.2 (i := 4) rfl
      have hk64 : k < 64 := by omega
      cases r with
      | true =>
        obtain ⟨rv, hrv⟩ : ∃ x : Int, ((Tb.mk (Tb.rf l) k).toNat : Int) = x := ⟨_, rfl⟩
        obtain ⟨v, hv⟩ : ∃ x : Int, ((Tb.mk (Tb.rf l) k ||| BitVec.twoPow 64 k).toNat : Int) = x := ⟨_, rfl⟩
        have a1 : bits BinOp.or IntKind.u64 rv (2 ^ k) = v := by rw [← hrv, ← hv, ← u_bit k hk64]; exact u_or _ _
        have s1 := shl_one k hk64
        have c1 := TB.c1 hd.out.1
        rw [hrv] at c1
        have cf := Blk.free hd.out.1 1
        have HN : Hid (TP (V.setCell ⟨p, 1, none⟩ (.int .u64 v)) p l n (k + 1) ∧ Below w.heap.size w (V.setCell ⟨p, 1, none⟩ (.int .u64 v))) := Lib.hid ⟨TP.run hd.out.1 HL.out hv, below_set hd.out.2.1 hpw _ _⟩
        clear hrv hv
        go_wp2_with fail
        go_region
        have HNd : Hid (TP (V.setCell ⟨p, 1, none⟩ (.int .u64 v)).drew p l n (k + 1) ∧ Below w.heap.size w (V.setCell ⟨p, 1, none⟩ (.int .u64 v)).drew) := Lib.hid ⟨Blk.drew HN.out.1, HN.out.2.drew⟩
        go_wp2
        refine ⟨?_, ?measure⟩
        case measure => simp [intOf]; omega
        first
          | exact ⟨k + 1, by go_num, by omega, HNd⟩
          | ((repeat apply Exists.intro); exact ⟨⟨k + 1, by go_num, by omega, HNd⟩, rfl⟩)
      | false =>
        go_wp2_with (go_at_call 67; rw [sv_def X]; refine (tb_note p n _ _ k hk64 X _ hd.out.1).mono ?_; rintro e W5 ⟨rfl, k5, b5⟩; have HN : Hid (TP W5 p l n (k + 1) ∧ Below w.heap.size w W5) := Lib.hid ⟨TP.set k5 HL.out, Chg.onto hd.out.2.1 b5 hd.out.2.1.size (by simpa using hpw)⟩; clear k5 b5)
        refine ⟨?_, ?measure⟩
        case measure => simp [intOf]; omega
        first
          | exact ⟨k + 1, by go_num, by omega, HN⟩
          | ((repeat apply Exists.intro); exact ⟨⟨k + 1, by go_num, by omega, HN⟩, rfl⟩)
    · obtain rfl : k = n := by omega
      go_wp2
      go_ret2
      exact ⟨p, rfl, HB.out.1, HB.out.2⟩
end Go.Proofs.Ytjedjnpepjdgeaa
