/- Span: what a table backwards tells. -/
import Derived.Test.YtopiiehdgknmgaaTbA
import Derived.Test.YtopiiehdgknmgaaLg16
namespace Go.Proofs.Ytopiiehdgknmgaa
open Go.ChangeShapes Go.WideShapes Go.ChangeAt Go.RowKit
set_option linter.unusedSimpArgs false
set_option linter.unusedVariables false

/-- The state from one place on: which items match the bytes from there. -/
def Tb.as (l : List (Bool × BitVec 256)) (n : Nat) (T : LgT) (k : Nat) (X : BitVec 64) : Prop := ∀ j, j ≤ n → X.getLsbD j = Lg.S (lgL l) n T false k j
theorem whole_as {l : List (Bool × BitVec 256)} {n : Nat} (hn : n ≤ 62) {T : LgT} {k : Nat} {X : BitVec 64} (h : Tb.as l n T k X) : ∀ j, j ≤ n → (Tb.whole n (Tb.mk (Tb.rf l) n) X).getLsbD j = Lg.S (lgL l) n T false k j := by
  intro j hj
  rw [whole_get _ _ _ _ (by omega), cl_P l n hn X _ h j hj, S_idem]
theorem start_as (l : List (Bool × BitVec 256)) (n : Nat) (hn : n ≤ 62) (T : LgT) : Tb.as l n T 0 (Tb.start n (Tb.mk (Tb.rf l) n)) := fun j hj => by
  rw [start_bits l n hn j hj]; rfl
theorem step_as {l : List (Bool × BitVec 256)} {n : Nat} (hn : n ≤ 62) {T : LgT} {k : Nat} {X : BitVec 64} (h : Tb.as l n T k X) {b : Nat} (hb : (T k).toNat = b) : Tb.as l n T (k + 1) (Tb.step n (Tb.mk (Tb.rf l) n) (Tb.mk (Tb.hf l b) n) X) := by
  intro j hj
  unfold Tb.step
  rw [whole_get _ _ _ _ (by omega)]
  have hw := whole_as hn h
  rw [cl_P l n hn _ (Lg.nx (lgL l) n (Lg.S (lgL l) n T false k) (T k) false) (fun i hi => by
    rw [BitVec.getLsbD_or, BitVec.getLsbD_and, hw i hi, rf_get _ _ _ (by omega), BitVec.getLsbD_shiftLeft, BitVec.getLsbD_and]
    cases i with
    | zero =>
      rw [Lg.nx]
      cases Lg.S (lgL l) n T false k 0 <;> cases (lgL l 0).1 <;> simp
    | succ i =>
      rw [Lg.nx]
      have h1 : i + 1 < 64 := by omega
      have h2 : i < n := by omega
      have e : i + 1 - 1 = i := by omega
      rw [e, hw i (by omega), hf_get _ _ _ _ (by omega)]
      unfold Lg.fits
      rw [hb]
      simp only [h1, h2]
      cases Lg.S (lgL l) n T false k (i + 1) <;> cases Lg.S (lgL l) n T false k i <;> cases (lgL l (i + 1)).1 <;> cases (lgL l i).1 <;> cases (lgL l i).2.getLsbD b <;> simp) j hj]
  rw [Lg.S]
theorem done_as {l : List (Bool × BitVec 256)} {n : Nat} (hn : n ≤ 62) {T : LgT} {k : Nat} {X : BitVec 64} (h : Tb.as l n T k X) : (Tb.whole n (Tb.mk (Tb.rf l) n) X).getLsbD n = Lg.D (lgL l) T 0 n k := by
  rw [whole_as hn h n (Nat.le_refl _), lgS_one _ _ _ _ _ (Nat.le_refl _), lgE_len]
theorem P_none {L : LgL} {f : Nat → Bool} : ∀ j, (∀ i, i ≤ j → f i = false) → Lg.P L f j = false
  | 0, h => h 0 (Nat.le_refl _)
  | j + 1, h => by rw [Lg.P, h (j + 1) (Nat.le_refl _), P_none j (fun i hi => h i (by omega))]; rfl
/-- What is dead stays so. -/
theorem as_dead {l : List (Bool × BitVec 256)} {n : Nat} {T : LgT} {k : Nat} (h : ∀ j, j ≤ n → Lg.S (lgL l) n T false k j = false) : ∀ d j, j ≤ n → Lg.S (lgL l) n T false (k + d) j = false
  | 0, j, hj => h j hj
  | d + 1, j, hj => by
    rw [← Nat.add_assoc, Lg.S]
    refine P_none j (fun i hi => ?_)
    cases i with
    | zero => rw [Lg.nx, as_dead h d 0 (by omega)]; simp
    | succ i => rw [Lg.nx, as_dead h d (i + 1) (by omega), as_dead h d i (by omega)]; simp
theorem as_zero {l : List (Bool × BitVec 256)} {n : Nat} (hn : n ≤ 62) {T : LgT} {k : Nat} (h : Tb.as l n T k 0) (m : Nat) (hm : k ≤ m) : Lg.D (lgL l) T 0 n m = false := by
  obtain ⟨d, rfl⟩ : ∃ d, m = k + d := ⟨m - k, by omega⟩
  have := as_dead (fun j hj => by rw [← h j hj]; simp) d n (Nat.le_refl _)
  rw [lgS_one _ _ _ _ _ (Nat.le_refl _), lgE_len] at this
  exact this
/-- The first of numbers, or none. -/
def Sp.hd (L : List Nat) : Nat × Bool := (L.headD 0, !L.isEmpty)
/-- What From tells. -/
def Sp.fr (l : List (Bool × BitVec 256)) (t : List UInt8) (tt : Nat) : Nat × Bool := Sp.hd (Lg.starts l t tt)
theorem starts_fr (l : List (Bool × BitVec 256)) (t : List UInt8) (tt : Nat) : Lg.starts l t tt = Lg.fr l t tt 0 := rfl
/-- The state of the pattern turned round, k bytes ahead of tt. -/
def Sp.at (l : List (Bool × BitVec 256)) (t : List UInt8) (tt k : Nat) (X : BitVec 64) : Prop := Tb.as l.reverse l.length (fun q => lgT t (tt - 1 - q)) k X
theorem sp_start (l : List (Bool × BitVec 256)) (h62 : l.length ≤ 62) (t : List UInt8) (tt : Nat) : Sp.at l t tt 0 (Tb.start l.length (Tb.mk (Tb.rf l.reverse) l.length)) := start_as _ _ h62 _
theorem sp_step {l : List (Bool × BitVec 256)} (h62 : l.length ≤ 62) {t : List UInt8} {tt k : Nat} {X : BitVec 64} (h : Sp.at l t tt k X) {b : Nat} (hb : (lgT t (tt - 1 - k)).toNat = b) : Sp.at l t tt (k + 1) (Tb.step l.length (Tb.mk (Tb.rf l.reverse) l.length) (Tb.mk (Tb.hf l.reverse b) l.length) X) := step_as h62 h hb
theorem sp_done {l : List (Bool × BitVec 256)} (h62 : l.length ≤ 62) {t : List UInt8} {tt k : Nat} {X : BitVec 64} (hk : k ≤ tt) (h : Sp.at l t tt k X) : (Tb.whole l.length (Tb.mk (Tb.rf l.reverse) l.length) X).getLsbD l.length = Lg.D (lgL l) (lgT t) (tt - k) l.length tt := by
  rw [done_as h62 h, lg_backwards l (lgT t) tt k hk]
/-- Nothing matches nothing, where bytes are wanted. -/
theorem D_none {l : List (Bool × BitVec 256)} (hz : decide (Lg.least l = 0) = false) (T : LgT) (i : Nat) : Lg.D (lgL l) T i l.length i = false := by
  cases h : Lg.D (lgL l) T i l.length i with
  | false => rfl
  | true =>
    have := m_least h
    rw [← least_fun] at this
    have hz := of_decide_eq_false hz
    omega
theorem sp_zero {l : List (Bool × BitVec 256)} (hz : decide (Lg.least l = 0) = false) (t : List UInt8) (tt : Nat) : Sp.hd (Lg.fr l t tt tt) = (0, false) := by
  rw [lgfrom_no (Nat.le_refl _) (D_none hz _ _), lgfrom_end]; rfl
theorem sp_yes {l : List (Bool × BitVec 256)} {t : List UInt8} {tt k : Nat} (hk : k ≤ tt) (h : Lg.D (lgL l) (lgT t) k l.length tt = true) : Sp.hd (Lg.fr l t tt k) = (k, true) := by
  rw [lgfrom_yes hk h]; rfl
theorem sp_no {l : List (Bool × BitVec 256)} {t : List UInt8} {tt k : Nat} (hk : k ≤ tt) (h : Lg.D (lgL l) (lgT t) k l.length tt = false) : Sp.hd (Lg.fr l t tt k) = Sp.hd (Lg.fr l t tt (k + 1)) := by
  rw [lgfrom_no hk h]
theorem sp_dead {l : List (Bool × BitVec 256)} (h62 : l.length ≤ 62) {t : List UInt8} {tt k : Nat} (hk : k ≤ tt) (h : Sp.at l t tt k 0) : ∀ d, d ≤ tt - k → Sp.hd (Lg.fr l t tt (tt - k - d)) = Sp.hd (Lg.fr l t tt (tt - k))
  | 0, _ => rfl
  | d + 1, hd => by
    have e : tt - k - (d + 1) + 1 = tt - k - d := by omega
    have e2 : tt - (k + (d + 1)) = tt - k - (d + 1) := by omega
    rw [sp_no (by omega) (by
      have := as_zero h62 h (k + (d + 1)) (by omega)
      rw [lg_backwards l (lgT t) tt _ (by omega), e2] at this
      exact this), e]
    exact sp_dead h62 hk h d (by omega)
theorem sp_end {l : List (Bool × BitVec 256)} (h62 : l.length ≤ 62) {t : List UInt8} {tt k : Nat} (hk : k ≤ tt) (h : Sp.at l t tt k 0) : Sp.hd (Lg.fr l t tt (tt - k)) = Sp.fr l t tt := by
  rw [Sp.fr, starts_fr, ← sp_dead h62 hk h (tt - k) (Nat.le_refl _)]
  congr 2; omega
theorem least_rev (l : List (Bool × BitVec 256)) : Lg.least l.reverse = Lg.least l := by unfold Lg.least; rw [List.countP_reverse]
/-- What Find tells. -/
theorem first_fr {l : List (Bool × BitVec 256)} {t : List UInt8} {k : Nat} (hk : k ≤ t.length) (h0 : ∀ j, j < k → Lg.occ l t j = false) (h1 : Lg.occ l t k = true) : Lg.firstR l t = ((Sp.fr l t k).1, k, true) ∧ (Sp.fr l t k).2 = true := by
  constructor
  · rcases first_cases l t with ⟨k2, hk2, z0, z1, e⟩ | ⟨z0, e⟩
    · have : k2 = k := by
        rcases Nat.lt_trichotomy k k2 with h | h | h
        · rw [z0 k h] at h1; cases h1
        · exact h.symm
        · rw [h0 k2 h] at z1; cases z1
      subst this
      exact e
    · rw [z0 k hk] at h1; cases h1
  · unfold Sp.fr Sp.hd
    have : Lg.starts l t k ≠ [] := fun e => by
      unfold Lg.occ at h1
      rw [List.any_eq_true] at h1
      obtain ⟨i, hi, hd⟩ := h1
      have : i ∈ Lg.starts l t k := by
        unfold Lg.starts
        rw [List.mem_filter]
        refine ⟨?_, hd⟩
        rw [List.mem_range'_1]
        have := List.mem_range.1 hi
        omega
      rw [e] at this
      cases this
    cases h : Lg.starts l t k with
    | nil => exact absurd h this
    | cons a b => rfl
theorem sp_first_none {l : List (Bool × BitVec 256)} {t : List UInt8} (h : ∀ j, j ≤ t.length → Lg.occ l t j = false) : Lg.firstR l t = (0, 0, false) := by
  rcases first_cases l t with ⟨k2, hk2, z0, z1, e⟩ | ⟨z0, e⟩
  · rw [h k2 hk2] at z1; cases z1
  · exact e
/-- A pattern turned round matches the bytes turned round. -/
theorem m_rev (l : List (Bool × BitVec 256)) (t : List UInt8) : Lg.m l.reverse t.reverse = Lg.m l t := by
  unfold Lg.m
  have h := lg_backwards l (lgT t) t.length t.length (Nat.le_refl _)
  rw [Nat.sub_self] at h
  rw [← h, List.length_reverse, List.length_reverse]
  refine lgD_congr 0 _ _ (fun _ _ => rfl) (fun x hx => ?_)
  unfold lgT
  rw [List.getElem?_reverse hx]
end Go.Proofs.Ytopiiehdgknmgaa
