/- Tables: states as bits. -/
import Derived.Test.YtjedjnpepjdgeaaLg16
namespace Go.Proofs.Ytjedjnpepjdgeaa
open Go.ChangeShapes Go.WideShapes Go.ChangeAt Go.RowKit
set_option linter.unusedSimpArgs false
set_option linter.unusedVariables false

/-- A state as a value. -/
def uv (X : BitVec 64) : Value := .int .u64 (X.toNat : Int)
theorem u_ofInt (X : BitVec 64) : BitVec.ofInt 64 (X.toNat : Int) = X := by
  apply BitVec.eq_of_toNat_eq
  rw [BitVec.ofInt_natCast, BitVec.toNat_ofNat]
  exact Nat.mod_eq_of_lt X.isLt
theorem u_and (X Y : BitVec 64) : bits BinOp.and IntKind.u64 (X.toNat : Int) (Y.toNat : Int) = ((X &&& Y).toNat : Int) := by
  show IntKind.u64.wrap _ = _
  have h : (BitVec.ofInt 64 (X.toNat : Int) &&& BitVec.ofInt 64 (Y.toNat : Int)) = X &&& Y := by rw [u_ofInt, u_ofInt]
  exact (congrArg (fun v : BitVec 64 => IntKind.u64.wrap (v.toNat : Int)) h).trans (Cs.wrap_toNat _)
theorem u_or (X Y : BitVec 64) : bits BinOp.or IntKind.u64 (X.toNat : Int) (Y.toNat : Int) = ((X ||| Y).toNat : Int) := by
  show IntKind.u64.wrap _ = _
  have h : (BitVec.ofInt 64 (X.toNat : Int) ||| BitVec.ofInt 64 (Y.toNat : Int)) = X ||| Y := by rw [u_ofInt, u_ofInt]
  exact (congrArg (fun v : BitVec 64 => IntKind.u64.wrap (v.toNat : Int)) h).trans (Cs.wrap_toNat _)
theorem u_shl1 (X : BitVec 64) : IntKind.u64.wrap ((X.toNat : Int) * 2) = ((X <<< 1).toNat : Int) := by
  have h := X.isLt
  rw [BitVec.toNat_shiftLeft, Nat.shiftLeft_eq]
  simp only [IntKind.wrap, IntKind.signed, IntKind.bits]
  simp
theorem u_bit (k : Nat) (hk : k < 64) : ((BitVec.twoPow 64 k).toNat : Int) = 2 ^ k := by
  rw [BitVec.toNat_twoPow]
  have : 2 ^ k < 2 ^ 64 := Nat.pow_lt_pow_right (by omega) hk
  rw [Nat.mod_eq_of_lt this]
  push_cast; rfl
theorem u_ext {X Y : BitVec 64} (h : ∀ i, i < 64 → X.getLsbD i = Y.getLsbD i) : X = Y := BitVec.eq_of_getLsbD_eq fun i hi => h i hi
/-- The bits below n. -/
def Tb.low (n : Nat) : BitVec 64 := BitVec.ofNat 64 (2 ^ n - 1)
theorem low_get (n i : Nat) (hi : i < 64) : (Tb.low n).getLsbD i = decide (i < n) := by
  unfold Tb.low
  rw [BitVec.getLsbD_ofNat, Nat.testBit_two_pow_sub_one]
  simp [hi]
theorem low_val (n : Nat) (hn : n < 64) : ((Tb.low n).toNat : Int) = (2 : Int) ^ n - 1 := by
  unfold Tb.low
  have h : 2 ^ n < 2 ^ 64 := Nat.pow_lt_pow_right (by omega) hn
  have h0 : 0 < 2 ^ n := Nat.pow_pos (by omega)
  rw [BitVec.toNat_ofNat, Nat.mod_eq_of_lt (by omega)]
  have : ((2 ^ n - 1 : Nat) : Int) = ((2 ^ n : Nat) : Int) - 1 := by omega
  rw [this]; push_cast; rfl
theorem u_low_wrap (n : Nat) (hn : n < 64) : IntKind.u64.wrap ((2 : Int) ^ n - 1) = ((Tb.low n).toNat : Int) := by
  rw [← low_val n hn]; exact Cs.wrap_toNat _
/-- Bits by a function. -/
def Tb.mk (f : Nat → Bool) : Nat → BitVec 64
  | 0 => 0
  | n + 1 => Tb.mk f n ||| (if f n then BitVec.twoPow 64 n else 0)
theorem mk_get (f : Nat → Bool) : ∀ (n i : Nat), i < 64 → (Tb.mk f n).getLsbD i = (decide (i < n) && f i)
  | 0, i, hi => by simp [Tb.mk]
  | n + 1, i, hi => by
    rw [Tb.mk, BitVec.getLsbD_or, mk_get f n i hi]
    by_cases e : i = n
    · subst e
      cases h : f i <;> simp [BitVec.getLsbD_twoPow, hi]
    · have e1 : decide (i < n + 1) = decide (i < n) := by congr 1; apply propext; omega
      rw [e1]
      cases h : f n with
      | true =>
        rw [if_pos rfl, BitVec.getLsbD_twoPow]
        have : (n == i) = false := by rw [beq_eq_false_iff_ne]; omega
        simp; omega
      | false => simp
/-- One round of what counts with it. -/
def Tb.F (R X : BitVec 64) : BitVec 64 := X ||| ((X &&& R) <<< 1)
theorem F_get (R X : BitVec 64) (i : Nat) (hi : i < 64) : (Tb.F R X).getLsbD i = (X.getLsbD i || (decide (0 < i) && X.getLsbD (i - 1) && R.getLsbD (i - 1))) := by
  unfold Tb.F
  rw [BitVec.getLsbD_or, BitVec.getLsbD_shiftLeft, BitVec.getLsbD_and]
  cases i with
  | zero => simp
  | succ i => simp [hi]
/-- All that counts with it. -/
def Tb.cl (R X : BitVec 64) : Nat → Bool
  | 0 => X.getLsbD 0
  | k + 1 => X.getLsbD (k + 1) || (Tb.cl R X k && R.getLsbD k)
theorem cl_F (R X : BitVec 64) : ∀ k, k < 64 → Tb.cl R (Tb.F R X) k = Tb.cl R X k
  | 0, hk => by rw [Tb.cl, Tb.cl, F_get _ _ _ hk]; simp
  | k + 1, hk => by
    rw [Tb.cl, Tb.cl, cl_F R X k (by omega), F_get _ _ _ hk]
    have h : X.getLsbD k = true → Tb.cl R X k = true := by
      intro h
      cases k with
      | zero => exact h
      | succ k => rw [Tb.cl, h]; rfl
    simp only [Nat.add_sub_cancel]
    cases h1 : X.getLsbD k with
    | true => rw [h h1]; cases X.getLsbD (k + 1) <;> cases R.getLsbD k <;> simp
    | false => cases X.getLsbD (k + 1) <;> simp
theorem cl_fix {R X : BitVec 64} (h : Tb.F R X = X) : ∀ k, k < 64 → Tb.cl R X k = X.getLsbD k
  | 0, _ => rfl
  | k + 1, hk => by
    rw [Tb.cl, cl_fix h k (by omega)]
    have := F_get R X (k + 1) hk
    rw [h] at this
    simp only [Nat.add_sub_cancel] at this
    rw [this]
    cases X.getLsbD (k + 1) <;> cases X.getLsbD k <;> cases R.getLsbD k <;> simp
/-- How many bits are set. -/
def Tb.ct (X : BitVec 64) : Nat := (List.range 64).countP X.getLsbD
theorem ct_le (X : BitVec 64) : Tb.ct X ≤ 64 := by
  unfold Tb.ct
  have := List.countP_le_length (p := X.getLsbD) (l := List.range 64)
  simpa using this
theorem ct_F {R X : BitVec 64} (h : Tb.F R X ≠ X) : Tb.ct X < Tb.ct (Tb.F R X) := by
  unfold Tb.ct
  obtain ⟨i, hi, h1, h2⟩ : ∃ i, i < 64 ∧ X.getLsbD i = false ∧ (Tb.F R X).getLsbD i = true := by
    refine Classical.byContradiction fun hn => h (u_ext fun i hi => ?_)
    have := F_get R X i hi
    cases hx : X.getLsbD i with
    | true => rw [this, hx]; rfl
    | false =>
      cases hf : (Tb.F R X).getLsbD i with
      | false => rfl
      | true => exact absurd ⟨i, hi, hx, hf⟩ hn
  have hsub : ∀ j ∈ List.range 64, X.getLsbD j = true → (Tb.F R X).getLsbD j = true := by
    intro j hj hx
    rw [F_get R X j (List.mem_range.1 hj), hx]; rfl
  have key : ∀ (l : List Nat), (∀ j ∈ l, X.getLsbD j = true → (Tb.F R X).getLsbD j = true) → i ∈ l → l.countP X.getLsbD < l.countP (Tb.F R X).getLsbD := by
    intro l
    induction l with
    | nil => intro _ h; cases h
    | cons x r ih =>
      intro hs hm
      have hr : r.countP X.getLsbD ≤ r.countP (Tb.F R X).getLsbD := List.countP_mono_left fun j hj hx => hs j (by simp [hj]) hx
      rcases List.mem_cons.1 hm with e | e
      · subst e
        rw [List.countP_cons_of_neg (by rw [h1]; simp), List.countP_cons_of_pos h2]
        omega
      · have := ih (fun j hj => hs j (by simp [hj])) e
        rw [List.countP_cons, List.countP_cons]
        have hx := hs x (by simp)
        cases hq : X.getLsbD x with
        | true => rw [hx hq]; simp; omega
        | false => simp; split <;> omega
  exact key _ hsub (List.mem_range.2 hi)
/-- A state with all that counts with it, and nothing else. -/
def Tb.whole (n : Nat) (R X : BitVec 64) : BitVec 64 := Tb.mk (Tb.cl R (X &&& Tb.low (n + 1))) 64
theorem whole_get (n : Nat) (R X : BitVec 64) (i : Nat) (hi : i < 64) : (Tb.whole n R X).getLsbD i = Tb.cl R (X &&& Tb.low (n + 1)) i := by
  unfold Tb.whole; rw [mk_get _ _ _ hi]; simp [hi]
theorem whole_fix {n : Nat} {R X Y : BitVec 64} (h : ∀ k, k < 64 → Tb.cl R Y k = Tb.cl R (X &&& Tb.low (n + 1)) k) (hf : Tb.F R Y = Y) : Tb.whole n R X = Y :=
  u_ext fun i hi => by rw [whole_get _ _ _ _ hi, ← h i hi, cl_fix hf i hi]
end Go.Proofs.Ytjedjnpepjdgeaa
