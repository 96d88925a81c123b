/- Tables: what a table's states mean. -/
import Derived.Test.YtjedjnpepjdgeaaTb6
namespace Go.Proofs.Ytjedjnpepjdgeaa
open Go.ChangeShapes Go.WideShapes Go.ChangeAt Go.RowKit
set_option linter.unusedSimpArgs false
set_option linter.unusedVariables false

theorem rf_get (l : List (Bool × BitVec 256)) (n i : Nat) (hi : i < 64) : (Tb.mk (Tb.rf l) n).getLsbD i = (decide (i < n) && (lgL l i).1) := mk_get _ _ _ hi
theorem hf_get (l : List (Bool × BitVec 256)) (b n i : Nat) (hi : i < 64) : (Tb.mk (Tb.hf l b) n).getLsbD i = (decide (i < n) && (!(lgL l i).1 && (lgL l i).2.getLsbD b)) := mk_get _ _ _ hi
theorem cl_P (l : List (Bool × BitVec 256)) (n : Nat) (hn : n ≤ 62) (X : BitVec 64) (f : Nat → Bool) (hX : ∀ i, i ≤ n → X.getLsbD i = f i) : ∀ j, j ≤ n → Tb.cl (Tb.mk (Tb.rf l) n) (X &&& Tb.low (n + 1)) j = Lg.P (lgL l) f j
  | 0, hj => by
    rw [Tb.cl, Lg.P, BitVec.getLsbD_and, low_get _ _ (by omega), hX 0 hj, decide_eq_true (by omega)]; simp
  | j + 1, hj => by
    rw [Tb.cl, Lg.P, BitVec.getLsbD_and, low_get _ _ (by omega), hX (j + 1) hj, decide_eq_true (by omega), cl_P l n hn X f hX j (by omega), rf_get _ _ _ (by omega), decide_eq_true (by omega)]
    simp
theorem P_idem (L : LgL) (f : Nat → Bool) : ∀ j, Lg.P L (Lg.P L f) j = Lg.P L f j
  | 0 => rfl
  | j + 1 => by
    rw [Lg.P, P_idem L f j, Lg.P]
    cases f (j + 1) <;> cases Lg.P L f j <;> cases (L j).1 <;> simp
theorem S_idem (L : LgL) (n : Nat) (T : LgT) (an : Bool) (k j : Nat) : Lg.P L (Lg.S L n T an k) j = Lg.S L n T an k j := by
  cases k with
  | zero => rw [Lg.S]; exact P_idem L _ j
  | succ k => rw [Lg.S]; exact P_idem L _ j
/-- A state that says of each number what holds behind k bytes. -/
def Tb.at (l : List (Bool × BitVec 256)) (n : Nat) (T : LgT) (k : Nat) (X : BitVec 64) : Prop := ∀ j, j ≤ n → X.getLsbD j = Lg.S (lgL l) n T true k j
theorem whole_at {l : List (Bool × BitVec 256)} {n : Nat} (hn : n ≤ 62) {T : LgT} {k : Nat} {X : BitVec 64} (h : Tb.at l n T k X) : ∀ j, j ≤ n → (Tb.whole n (Tb.mk (Tb.rf l) n) X).getLsbD j = Lg.S (lgL l) n T true k j := by
  intro j hj
  rw [whole_get _ _ _ _ (by omega), cl_P l n hn X _ h j hj, S_idem]
theorem start_bits (l : List (Bool × BitVec 256)) (n : Nat) (hn : n ≤ 62) (j : Nat) (hj : j ≤ n) : (Tb.start n (Tb.mk (Tb.rf l) n)).getLsbD j = Lg.P (lgL l) (fun k => k == 0) j := by
  unfold Tb.start
  rw [whole_get _ _ _ _ (by omega), cl_P l n hn 1 (fun k => k == 0) (fun i hi => by
    cases i with
    | zero => decide
    | succ i => simp [BitVec.getLsbD_one]) j hj]
theorem start_at (l : List (Bool × BitVec 256)) (n : Nat) (hn : n ≤ 62) (T : LgT) : Tb.at l n T 0 (Tb.start n (Tb.mk (Tb.rf l) n)) := fun j hj => by
  rw [start_bits l n hn j hj]; rfl
theorem nx_new (L : LgL) (n : Nat) (g : Nat → Bool) (c : UInt8) (j : Nat) : Lg.nx L n g c true j = ((j == 0) || Lg.nx L n g c false j) := by
  cases j <;> simp [Lg.nx]
theorem nx_congr {L : LgL} {n : Nat} {g g' : Nat → Bool} {c : UInt8} (h : ∀ i, i ≤ n → g i = g' i) (an : Bool) (j : Nat) (hj : j ≤ n) : Lg.nx L n g c an j = Lg.nx L n g' c an j := by
  cases j with
  | zero => rw [Lg.nx, Lg.nx, h 0 hj]
  | succ j => rw [Lg.nx, Lg.nx, h (j + 1) hj, h j (by omega)]
theorem seek_at {l : List (Bool × BitVec 256)} {n : Nat} (hn : n ≤ 62) {T : LgT} {k : Nat} {X : BitVec 64} (h : Tb.at l n T k X) {b : Nat} (hb : (T k).toNat = b) : Tb.at l n T (k + 1) (Tb.seek n (Tb.mk (Tb.rf l) n) (Tb.mk (Tb.hf l b) n) X) := by
  intro j hj
  unfold Tb.seek
  rw [BitVec.getLsbD_or, start_bits l n hn j hj]
  unfold Tb.step
  rw [whole_get _ _ _ _ (by omega)]
  have hw := whole_at hn h
  rw [cl_P l n hn _ (Lg.nx (lgL l) n (Lg.S (lgL l) n T true k) (T k) false) (fun i hi => by
    rw [BitVec.getLsbD_or, BitVec.getLsbD_and, hw i hi, rf_get _ _ _ (by omega), BitVec.getLsbD_shiftLeft, BitVec.getLsbD_and]
    cases i with
    | zero =>
      rw [Lg.nx]
      cases Lg.S (lgL l) n T true k 0 <;> cases (lgL l 0).1 <;> simp
    | succ i =>
      rw [Lg.nx]
      have h1 : i + 1 < 64 := by omega
      have h2 : i < n := by omega
      have e : i + 1 - 1 = i := by omega
      rw [e, hw i (by omega), hf_get _ _ _ _ (by omega)]
      unfold Lg.fits
      rw [hb]
      simp only [h1, h2]
      cases Lg.S (lgL l) n T true k (i + 1) <;> cases Lg.S (lgL l) n T true k i <;> cases (lgL l (i + 1)).1 <;> cases (lgL l i).1 <;> cases (lgL l i).2.getLsbD b <;> simp) j hj]
  rw [Lg.S]
  have e : Lg.P (lgL l) (Lg.nx (lgL l) n (Lg.S (lgL l) n T true k) (T k) true) j = Lg.P (lgL l) (fun i => (i == 0) || Lg.nx (lgL l) n (Lg.S (lgL l) n T true k) (T k) false i) j := lgP_congr _ _ _ j fun i _ => nx_new _ _ _ _ i
  rw [e, lgP_or, Bool.or_comm]
/-- Whether the pattern occurs to there. -/
theorem done_at {l : List (Bool × BitVec 256)} {n : Nat} (hn : n ≤ 62) (hl : l.length = n) {t : List UInt8} {k : Nat} {X : BitVec 64} (h : Tb.at l n (lgT t) k X) : (Tb.whole n (Tb.mk (Tb.rf l) n) X).getLsbD n = Lg.occ l t k := by
  rw [whole_at hn h n (Nat.le_refl _), lgS_occ l t n k hl]
end Go.Proofs.Ytjedjnpepjdgeaa
