/- Tables: the document's Start, Done, Step. -/
import Derived.Test.YtjedjnpepjdgeaaTb9
import Derived.Test.YtjedjnpepjdgeaaCsRA
import Derived.Test.YtjedjnpepjdgeaaQtA
namespace Go.Proofs.Ytjedjnpepjdgeaa
open Go.ChangeShapes Go.WideShapes Go.ChangeAt Go.RowKit
set_option linter.unusedSimpArgs false
set_option linter.unusedVariables false

theorem cl_high (l : List (Bool × BitVec 256)) (n : Nat) (X : BitVec 64) (i : Nat) (hi : i < 64) (hn : n < i) : Tb.cl (Tb.mk (Tb.rf l) n) (X &&& Tb.low (n + 1)) i = false := by
  obtain ⟨j, rfl⟩ : ∃ j, i = j + 1 := ⟨i - 1, by omega⟩
  have h1 : ¬ (j + 1 < n + 1) := by omega
  have h2 : ¬ (j < n) := by omega
  rw [Tb.cl, BitVec.getLsbD_and, low_get _ _ hi, rf_get _ _ _ (by omega), decide_eq_false h1, decide_eq_false h2]
  simp
theorem whole_eq (l : List (Bool × BitVec 256)) (n : Nat) (hn : n ≤ 62) (X : BitVec 64) : Tb.whole n (Tb.mk (Tb.rf l) n) X = Tb.mk (Lg.P (lgL l) X.getLsbD) (n + 1) := by
  apply u_ext
  intro i hi
  rw [whole_get _ _ _ _ hi, mk_get _ _ _ hi]
  by_cases h : i ≤ n
  · rw [cl_P l n hn X _ (fun _ _ => rfl) i h, decide_eq_true (by omega)]; rfl
  · rw [cl_high l n X i hi (by omega), decide_eq_false (by omega)]; rfl
theorem mk_congr {f g : Nat → Bool} (m : Nat) (h : ∀ i, i < m → f i = g i) : Tb.mk f m = Tb.mk g m := by
  induction m with
  | zero => rfl
  | succ m ih => rw [Tb.mk, Tb.mk, ih (fun i hi => h i (by omega)), h m (by omega)]
/-- A byte more, as the document goes. -/
theorem step_eq (l : List (Bool × BitVec 256)) (n : Nat) (hn : n ≤ 62) (c : UInt8) (b : Nat) (hb : c.toNat = b) (X : BitVec 64) : Tb.step n (Tb.mk (Tb.rf l) n) (Tb.mk (Tb.hf l b) n) X = Tb.mk (Lg.P (lgL l) (Tb.mk (Lg.nx (lgL l) n (Lg.P (lgL l) X.getLsbD) c false) (n + 1)).getLsbD) (n + 1) := by
  unfold Tb.step
  rw [whole_eq l n hn]
  refine mk_congr _ fun j hj => lgP_congr _ _ _ j fun i hi => ?_
  have hw : ∀ i, i ≤ n → (Tb.whole n (Tb.mk (Tb.rf l) n) X).getLsbD i = Lg.P (lgL l) X.getLsbD i := fun i hi => by rw [whole_eq l n hn, mk_get _ _ _ (by omega), decide_eq_true (by omega)]; rfl
  rw [mk_get (Lg.nx (lgL l) n (Lg.P (lgL l) X.getLsbD) c false) (n + 1) i (by omega), decide_eq_true (show i < n + 1 by omega), BitVec.getLsbD_or, BitVec.getLsbD_and, hw i (by omega), rf_get _ _ _ (by omega), BitVec.getLsbD_shiftLeft, BitVec.getLsbD_and]
  cases i with
  | zero =>
    rw [Lg.nx]
    cases Lg.P (lgL l) X.getLsbD 0 <;> cases (lgL l 0).1 <;> simp
  | succ i =>
    rw [Lg.nx]
    have h1 : i + 1 < 64 := by omega
    have h2 : i < n := by omega
    have e : i + 1 - 1 = i := by omega
    rw [e, hw i (by omega), hf_get _ _ _ _ (by omega)]
    unfold Lg.fits
    rw [hb]
    simp only [h1, h2]
    cases Lg.P (lgL l) X.getLsbD (i + 1) <;> cases Lg.P (lgL l) X.getLsbD i <;> cases (lgL l (i + 1)).1 <;> cases (lgL l i).1 <;> cases (lgL l i).2.getLsbD b <;> simp
/-- Anew, as the document goes. -/
theorem seek_eq (l : List (Bool × BitVec 256)) (n : Nat) (hn : n ≤ 62) (Hb X : BitVec 64) : Tb.seek n (Tb.mk (Tb.rf l) n) Hb X = Tb.mk (fun k => Lg.P (lgL l) (Tb.step n (Tb.mk (Tb.rf l) n) Hb X).getLsbD k || Lg.P (lgL l) (1 : BitVec 64).getLsbD k) (n + 1) := by
  unfold Tb.seek Tb.start
  have hs : ∀ i, i ≤ n → Lg.P (lgL l) (Tb.step n (Tb.mk (Tb.rf l) n) Hb X).getLsbD i = (Tb.step n (Tb.mk (Tb.rf l) n) Hb X).getLsbD i := by
    intro i hi
    unfold Tb.step
    rw [whole_eq l n hn]
    have : ∀ j, j ≤ i → (Tb.mk (Lg.P (lgL l) ((Tb.whole n (Tb.mk (Tb.rf l) n) X &&& (Tb.mk (Tb.rf l) n)) ||| ((Tb.whole n (Tb.mk (Tb.rf l) n) X &&& Hb) <<< 1)).getLsbD) (n + 1)).getLsbD j = Lg.P (lgL l) ((Tb.whole n (Tb.mk (Tb.rf l) n) X &&& (Tb.mk (Tb.rf l) n)) ||| ((Tb.whole n (Tb.mk (Tb.rf l) n) X &&& Hb) <<< 1)).getLsbD j := fun j hj => by rw [mk_get _ _ _ (by omega), decide_eq_true (by omega)]; rfl
    rw [lgP_congr _ _ _ i this, P_idem, this i (Nat.le_refl _)]
  apply u_ext
  intro i hi
  rw [BitVec.getLsbD_or, mk_get _ _ _ hi, whole_eq l n hn 1, mk_get _ _ _ hi]
  by_cases h : i ≤ n
  · rw [hs i h, decide_eq_true (by omega)]; rfl
  · have hz : (Tb.step n (Tb.mk (Tb.rf l) n) Hb X).getLsbD i = false := by
      unfold Tb.step
      rw [whole_eq l n hn, mk_get _ _ _ hi, decide_eq_false (by omega)]; rfl
    rw [hz, decide_eq_false (by omega)]; rfl
set_option maxRecDepth 20000 in
theorem r9_start (l : List (Bool × BitVec 256)) (n : Nat) (a : Option Addr) (c : Nat) (hn : l.length = n) (hn6 : n ≤ 62) (Y : BitVec 64) (y : Int) (hY : Tb.start n (Tb.mk (Tb.rf l) n) = Y) (hy : (Y.toNat : Int) = y) (w : World) (hI : IA w a l) :
    Calls Try.prog 38 #[.slice a n c] w fun e w' => e = .returned (.int .u64 y) ∧ Below w.heap.size w w' := by
  have HG := Lib.hid (And.intro hI hn)
  have HW : Hid (IA w a l ∧ ((1 : BitVec 64).toNat : Int) = 1) := Lib.hid ⟨hI, rfl⟩
  have HY : Hid (Tb.mk (Lg.P (lgL l) (1 : BitVec 64).getLsbD) (n + 1) = Y ∧ (Y.toNat : Int) = y) := Lib.hid ⟨by rw [← whole_eq l n hn6]; exact hY, hy⟩
  clear hI hn hY hy
  go_enter Try.func38, Try.ntmps38
  go_wp2_with (first
    | (go_at_call 70; with_reducible refine (r9_numbers l n a c HG.out.2 (by omega) 1 1 HW.out.2 _ HW.out.1).mono ?_; rintro e W1 ⟨g1, c1, rfl, kg, kr, hb1⟩; have HB := Lib.hid (And.intro kr hb1); clear kg kr hb1)
    | (go_at_call 69; with_reducible refine (r9_pack _ (n + 1) (by omega) g1 c1 Y y HY.out.1 HY.out.2 _ HB.out.1).mono ?_; rintro e W2 ⟨rfl, rfl⟩))
  go_ret
  exact ⟨rfl, HB.out.2⟩
set_option maxRecDepth 20000 in
theorem r9_done (l : List (Bool × BitVec 256)) (n : Nat) (a : Option Addr) (c : Nat) (hn : l.length = n) (hn6 : n ≤ 62) (X : BitVec 64) (x : Int) (hx : (X.toNat : Int) = x) (b : Bool) (hb : (Tb.whole n (Tb.mk (Tb.rf l) n) X).getLsbD n = b) (w : World) (hI : IA w a l) :
    Calls Try.prog 44 #[.slice a n c, .int .u64 x] w fun e w' => e = .returned (.bool b) ∧ Below w.heap.size w w' := by
  have HG := Lib.hid (And.intro hI hn)
  have HW : Hid (IA w a l ∧ (X.toNat : Int) = x) := Lib.hid ⟨hI, hx⟩
  have HP : Hid (Lg.P (lgL l) X.getLsbD n = b) := Lib.hid (by rw [← hb, whole_eq l n hn6, mk_get _ _ _ (by omega), decide_eq_true (by omega)]; rfl)
  clear hI hn hx hb
  go_enter Try.func44, Try.ntmps44
  go_wp2_with (go_at_call 70; with_reducible refine (r9_numbers l n a c HG.out.2 (by omega) X x HW.out.2 _ HW.out.1).mono ?_; rintro e W1 ⟨g1, c1, rfl, kg, kr, hb1⟩; have ci := kr.cell (bl_at (Lg.P (lgL l) X.getLsbD) (n := n + 1) (i := n) (by omega)); rw [HP.out] at ci; have HB := Lib.hid hb1; clear kg kr hb1)
  go_ret
  exact ⟨rfl, HB.out⟩
theorem P_zero (L : LgL) : ∀ j, Lg.P L (0 : BitVec 64).getLsbD j = false
  | 0 => by rw [Lg.P]; simp
  | j + 1 => by rw [Lg.P, P_zero L j]; simp
theorem flip_n {w : World} {g cap n : Nat} {f h : Nat → Bool} (k : Rw w g cap (bl f n) 4) {i : Nat} (hi : i < n) {b : Bool} (hh : ∀ j, j < n → h j = if j = i then b else f j) : Rw (w.setCell ⟨g, i, none⟩ (.bool b)) g cap (bl h n) 4 := by
  have := k.put (i := i) (by rw [bl_length]; exact hi) (.bool b)
  rwa [blg_set f h n i b hh] at this
theorem bl_eq {w : World} {g cap n : Nat} {f h : Nat → Bool} (k : Rw w g cap (bl f n) 4) (hh : ∀ j, j < n → f j = h j) : Rw w g cap (bl h n) 4 := by
  rw [← blg_congr hh]; exact k
set_option maxRecDepth 20000 in
set_option maxHeartbeats 8000000 in
theorem r9_step (l : List (Bool × BitVec 256)) (n : Nat) (a : Option Addr) (c : Nat) (hn : l.length = n) (hn6 : n ≤ 62) (X : BitVec 64) (x : Int) (hx : (X.toNat : Int) = x) (cc : UInt8) (b : Nat) (hb : cc.toNat = b) (Y : BitVec 64) (y : Int) (hY : Tb.step n (Tb.mk (Tb.rf l) n) (Tb.mk (Tb.hf l b) n) X = Y) (hy : (Y.toNat : Int) = y) (w : World) (hI : IA w a l) :
    Calls Try.prog 40 #[.slice a n c, .int .u64 x, .int .u8 b] w fun e w' => e = .returned (.int .u64 y) ∧ Below w.heap.size w w' := by
  have hb2 : b < 256 := by rw [← hb]; exact cc.toNat_lt
  have HG := Lib.hid (And.intro hI hn)
  have HW : Hid (IA w a l ∧ (X.toNat : Int) = x ∧ ((0 : BitVec 64).toNat : Int) = 0) := Lib.hid ⟨hI, hx, rfl⟩
  obtain ⟨V, hV⟩ : ∃ V, Tb.mk (Lg.nx (lgL l) n (Lg.P (lgL l) X.getLsbD) cc false) (n + 1) = V := ⟨_, rfl⟩
  obtain ⟨v, hv⟩ : ∃ x : Int, (V.toNat : Int) = x := ⟨_, rfl⟩
  have HY : Hid (Tb.mk (Lg.P (lgL l) V.getLsbD) (n + 1) = Y ∧ (Y.toNat : Int) = y ∧ (V.toNat : Int) = v) := Lib.hid ⟨by rw [← hY, step_eq l n hn6 cc b hb, hV], hy, hv⟩
  have HV := Lib.hid (And.intro hV hb)
  clear hI hn hx hY hy hV hv hb
  go_enter Try.func40, Try.ntmps40
  go_upto_region 2 with (first
    | (go_at_call 70; with_reducible refine (r9_numbers l n a c HG.out.2 (by omega) X x HW.out.2.1 _ HW.out.1).mono ?_; rintro e W1 ⟨g1, c1, rfl, kg, kr, hb1⟩; have HA := Lib.hid (And.intro (HW.out.1.below hb1) (And.intro kr (And.intro hb1 (And.intro kg kr.lt)))); clear kg kr hb1)
    | (go_at_call 70; with_reducible refine (r9_numbers l n a c HG.out.2 (by omega) 0 0 HW.out.2.2 _ HA.out.1).mono ?_; rintro e W2 ⟨g2, c2, rfl, kg, kr, hb1⟩; have HB0 := Lib.hid (And.intro kg (And.intro kr hb1)); clear kg kr hb1))
  have hgne : g1 ≠ g2 := by have := HA.out.2.2.2.2; have := HB0.out.1; omega
  have hg2w : w.heap.size ≤ g2 := by have := HA.out.2.2.1.size; have := HB0.out.1; omega
  have HB : Hid (Rw W2 g1 c1 (bl (Lg.P (lgL l) X.getLsbD) (n + 1)) 4 ∧ Rw W2 g2 c2 (bl (Lg.N (lgL l) 0 (Lg.P (lgL l) X.getLsbD) cc false) (n + 1)) 4 ∧ Below w.heap.size w W2) := Lib.hid ⟨HA.out.2.1.fresh HB0.out.2.2, bl_eq HB0.out.2.1 (fun j hj => by rw [lgN_zero]; have : Lg.P (lgL l) (0 : BitVec 64).getLsbD j = false := P_zero _ j; rw [this]; simp), HA.out.2.2.1.trans (HB0.out.2.2.mono HA.out.2.2.1.size)⟩
  clear HA HB0
  go_wp2_with fail
  go_loopw [9] (fun i wr => ∃ k : Nat, i = .int .i64 k ∧ k ≤ n ∧ Hid (Rw wr g1 c1 (bl (Lg.P (lgL l) X.getLsbD) (n + 1)) 4 ∧ Rw wr g2 c2 (bl (Lg.N (lgL l) k (Lg.P (lgL l) X.getLsbD) cc false) (n + 1)) 4 ∧ Below w.heap.size w wr)) (fun i _ => n - (intOf i).toNat)
  case atStart => exact ⟨0, rfl, by omega, HB⟩
  case round =>
    clear HB
    obtain ⟨k, rfl, hk, HB⟩ := hrel
    have k0 : (0 : Int) ≤ (k : Int) := by omega
    by_cases hkl : k < n
    · obtain ⟨yy, hyy⟩ : ∃ y, l[k]? = some y := ⟨_, List.getElem?_eq_getElem (by rw [HG.out.2]; exact hkl)⟩
      obtain ⟨r, Z⟩ := yy
      have HL : Hid (lgL l k = (r, Z)) := Lib.hid (by unfold lgL; rw [hyy]; rfl)
      have HZ := Lib.hid hyy
      obtain ⟨gi, o, ha, hgi, z0, z1, z2, z3, z4⟩ := (HG.out.1.below HB.out.2.2).cell hyy
      subst ha
      dsimp only at z0 z1 z2 z3 z4
      obtain ⟨q, hq⟩ : ∃ q, Lg.P (lgL l) X.getLsbD k = q := ⟨_, rfl⟩
      have HQ := Lib.hid hq
      have cw := HB.out.1.cell (bl_at (Lg.P (lgL l) X.getLsbD) (n := n + 1) (i := k) (by omega))
      rw [hq] at cw
      have k1 : k < n + 1 := by omega
      have k2 : (k : Int) < (n : Int) + 1 := by omega
      have k3 : k + 1 < n + 1 := by omega
      have w1 : IntKind.i64.wrap ((k : Int) + 1) = (k : Int) + 1 := IntWalk.i64_in _ (by omega)
      have wb : IntKind.i64.wrap (b : Int) = (b : Int) := IntWalk.i64_in _ (by omega)
      clear hyy hq hgi
      cases q with
      | false =>
        have HN : Hid (Rw wr g1 c1 (bl (Lg.P (lgL l) X.getLsbD) (n + 1)) 4 ∧ Rw wr g2 c2 (bl (Lg.N (lgL l) (k + 1) (Lg.P (lgL l) X.getLsbD) cc false) (n + 1)) 4 ∧ Below w.heap.size w wr) := Lib.hid ⟨HB.out.1, bl_eq HB.out.2.1 (fun j _ => lgN_no HQ.out false j), HB.out.2.2⟩
        go_wp2
        refine ⟨?_, ?measure⟩
        case measure => simp [intOf]; omega
        first
          | exact ⟨k + 1, by go_num, by omega, HN⟩
          | ((repeat apply Exists.intro); exact ⟨⟨k + 1, by go_num, by omega, HN⟩, rfl⟩)
      | true =>
        cases r with
        | true =>
          have cf := HB.out.2.1.free (k)
          have cg := HB.out.2.1.cell (bl_at (Lg.N (lgL l) k (Lg.P (lgL l) X.getLsbD) cc false) (n := n + 1) (i := k) (by omega))
          have HN : Hid (Rw (wr.setCell ⟨g2, k, none⟩ (.bool true)) g1 c1 (bl (Lg.P (lgL l) X.getLsbD) (n + 1)) 4 ∧ Rw (wr.setCell ⟨g2, k, none⟩ (.bool true)) g2 c2 (bl (Lg.N (lgL l) (k + 1) (Lg.P (lgL l) X.getLsbD) cc false) (n + 1)) 4 ∧ Below w.heap.size w (wr.setCell ⟨g2, k, none⟩ (.bool true))) := Lib.hid ⟨HB.out.1.other hgne _ _, flip_n HB.out.2.1 (by omega) (fun j _ => lgN_run HQ.out (by rw [HL.out]) false j), below_set HB.out.2.2 hg2w _ _⟩
          have cw2 := HN.out.1.cell (bl_at (Lg.P (lgL l) X.getLsbD) (n := n + 1) (i := k) (by omega))
          rw [HQ.out] at cw2
          have zz := ((HG.out.1.below HN.out.2.2).at HZ.out).1
          dsimp only at zz
          go_wp2
          refine ⟨?_, ?measure⟩
          case measure => simp [intOf]; omega
          first
            | exact ⟨k + 1, by go_num, by omega, HN⟩
            | ((repeat apply Exists.intro); exact ⟨⟨k + 1, by go_num, by omega, HN⟩, rfl⟩)
        | false =>
          obtain ⟨fb, hfb⟩ : ∃ fb, Z.getLsbD b = fb := ⟨_, rfl⟩
          have HF : Hid (Z.getLsbD b = fb ∧ Lg.fits (lgL l k) cc = fb) := Lib.hid ⟨hfb, by rw [HL.out]; unfold Lg.fits; rw [HV.out.2]; exact hfb⟩
          clear hfb
          cases fb with
          | false =>
            go_wp2_with (go_at_call 62; rw [sv_def Z]; refine (rf_has Z b hb2 false HF.out.1 _).mono ?_; rintro e W5 ⟨rfl, hb5⟩; have HN : Hid (Rw W5 g1 c1 (bl (Lg.P (lgL l) X.getLsbD) (n + 1)) 4 ∧ Rw W5 g2 c2 (bl (Lg.N (lgL l) (k + 1) (Lg.P (lgL l) X.getLsbD) cc false) (n + 1)) 4 ∧ Below w.heap.size w W5) := Lib.hid ⟨HB.out.1.fresh hb5, bl_eq (HB.out.2.1.fresh hb5) (fun j _ => lgN_un (by rw [HL.out]) HF.out.2 false j), HB.out.2.2.trans (hb5.mono HB.out.2.2.size)⟩; clear hb5)
            refine ⟨?_, ?measure⟩
            case measure => simp [intOf]; omega
            first
              | exact ⟨k + 1, by go_num, by omega, HN⟩
              | ((repeat apply Exists.intro); exact ⟨⟨k + 1, by go_num, by omega, HN⟩, rfl⟩)
          | true =>
            go_upto_region 8 with (go_at_call 62; rw [sv_def Z]; refine (rf_has Z b hb2 true HF.out.1 _).mono ?_; rintro e W5 ⟨rfl, hb5⟩; replace HB : Hid (Rw W5 g1 c1 (bl (Lg.P (lgL l) X.getLsbD) (n + 1)) 4 ∧ Rw W5 g2 c2 (bl (Lg.N (lgL l) k (Lg.P (lgL l) X.getLsbD) cc false) (n + 1)) 4 ∧ Below w.heap.size w W5) := Lib.hid ⟨HB.out.1.fresh hb5, HB.out.2.1.fresh hb5, HB.out.2.2.trans (hb5.mono HB.out.2.2.size)⟩; clear hb5 cw z0 z1 z2 z3 z4)
            have cf := HB.out.2.1.free (k + 1)
            have cg := HB.out.2.1.cell (bl_at (Lg.N (lgL l) k (Lg.P (lgL l) X.getLsbD) cc false) (n := n + 1) (i := k + 1) (by omega))
            have HN : Hid (Rw (W5.setCell ⟨g2, k + 1, none⟩ (.bool true)) g1 c1 (bl (Lg.P (lgL l) X.getLsbD) (n + 1)) 4 ∧ Rw (W5.setCell ⟨g2, k + 1, none⟩ (.bool true)) g2 c2 (bl (Lg.N (lgL l) (k + 1) (Lg.P (lgL l) X.getLsbD) cc false) (n + 1)) 4 ∧ Below w.heap.size w (W5.setCell ⟨g2, k + 1, none⟩ (.bool true))) := Lib.hid ⟨HB.out.1.other hgne _ _, flip_n HB.out.2.1 (by omega) (fun j _ => lgN_fit HQ.out (by rw [HL.out]) HF.out.2 false j), below_set HB.out.2.2 hg2w _ _⟩
            go_wp2
            refine ⟨?_, ?measure⟩
            case measure => simp [intOf]; omega
            first
              | exact ⟨k + 1, by go_num, by omega, HN⟩
              | ((repeat apply Exists.intro); exact ⟨⟨k + 1, by go_num, by omega, HN⟩, rfl⟩)
    · obtain rfl : k = n := by omega
      have HE : Hid (Rw wr g2 c2 (bl (Lg.nx (lgL l) k (Lg.P (lgL l) X.getLsbD) cc false) (k + 1)) 4 ∧ IA wr a l ∧ Below w.heap.size w wr) := Lib.hid ⟨bl_eq HB.out.2.1 (fun j hj => lgN_all (lgL l) k _ cc false j hj), HG.out.1.below HB.out.2.2, HB.out.2.2⟩
      clear HB
      go_wp2_with (first
        | (go_at_call 69; with_reducible refine (r9_pack _ (k + 1) (by omega) g2 c2 V v HV.out.1 HY.out.2.2 _ HE.out.1).mono ?_; rintro e W2 ⟨rfl, rfl⟩)
        | (go_at_call 70; with_reducible refine (r9_numbers l k a c HG.out.2 (by omega) V v HY.out.2.2 _ HE.out.2.1).mono ?_; rintro e W3 ⟨g3, c3, rfl, kg, kr, hb1⟩; have HF := Lib.hid (And.intro kr (HE.out.2.2.trans (hb1.mono HE.out.2.2.size))); clear kg kr hb1)
        | (go_at_call 69; with_reducible refine (r9_pack _ (k + 1) (by omega) g3 c3 Y y HY.out.1 HY.out.2.1 _ HF.out.1).mono ?_; rintro e W2 ⟨rfl, rfl⟩))
      go_ret
      exact ⟨rfl, HF.out.2⟩
end Go.Proofs.Ytjedjnpepjdgeaa
