/- Ticks as texts: what digits count, which texts are ticks; no program. -/
import Derived.Lib.ItoaNum
namespace Go.Proofs.YtfhhkmjjifbfeaaGreatDoor
open Go

/-- Is the byte a digit? -/
def Tx.dig (b : UInt8) : Bool := decide (48 ≤ b.toNat) && decide (b.toNat ≤ 57)
/-- What digits count, behind n. -/
def Tx.one (n : Nat) (b : UInt8) : Nat := 10 * n + (b.toNat - 48)
def Tx.go (n : Nat) (l : List UInt8) : Nat := l.foldl Tx.one n
theorem Tx.go_nil (n : Nat) : Tx.go n [] = n := by unfold Tx.go; rw [List.foldl_nil]
theorem Tx.go_cons (n : Nat) (b : UInt8) (l : List UInt8) : Tx.go n (b :: l) = Tx.go (Tx.one n b) l := by unfold Tx.go; rw [List.foldl_cons]
theorem Tx.one_eq (n : Nat) (b : UInt8) : Tx.one n b = 10 * n + (b.toNat - 48) := by unfold Tx.one; with_reducible rfl
def Tx.val (l : List UInt8) : Nat := Tx.go 0 l
/-- Digits without a nought ahead of others. -/
def Tx.head : List UInt8 → Bool
  | [] => false
  | [_] => true
  | b :: _ :: _ => !(b == 48)
def Tx.plain (l : List UInt8) : Bool := Tx.head l && l.all Tx.dig
def Tx.nev : List UInt8 := [110, 101, 118, 101, 114]
/-- The tick of a text, and what is wrong. -/
def Tx.parse (l : List UInt8) : Int × Int :=
  if l = Tx.nev then (9223372036854775807, 0) else if Tx.plain l = false then (0, 2) else if Tx.val l < 9223372036854775807 then ((Tx.val l : Int), 0) else (0, 12)
/-- The text of a tick that may be. -/
def Tx.text (n : Nat) : List UInt8 := if n = 9223372036854775807 then Tx.nev else Lib.decDigits n

theorem Tx.go_le (n : Nat) (l : List UInt8) : n ≤ Tx.go n l := by
  induction l generalizing n with
  | nil => exact Nat.le_refl _
  | cons b l ih => rw [Tx.go_cons]; exact Nat.le_trans (by rw [Tx.one_eq]; omega) (ih (Tx.one n b))
theorem Tx.go_append (n : Nat) (l m : List UInt8) : Tx.go n (l ++ m) = Tx.go (Tx.go n l) m := by
  unfold Tx.go; rw [List.foldl_append]
theorem Tx.val_snoc (l : List UInt8) (b : UInt8) : Tx.val (l ++ [b]) = 10 * Tx.val l + (b.toNat - 48) := by
  unfold Tx.val; rw [Tx.go_append, Tx.go_cons, Tx.go_nil, Tx.one_eq]
theorem Tx.val_nil : Tx.val [] = 0 := by unfold Tx.val; rw [Tx.go_nil]
theorem Tx.val_take (l : List UInt8) (k : Nat) : Tx.val (l.take k) ≤ Tx.val l := by
  have h : Tx.val l = Tx.val (l.take k ++ l.drop k) := by rw [List.take_append_drop]
  rw [h]; unfold Tx.val; rw [Tx.go_append]; exact Tx.go_le _ _
theorem Tx.val_step {l : List UInt8} {k : Nat} {b : UInt8} (h : l[k]? = some b) : Tx.val (l.take (k + 1)) = 10 * Tx.val (l.take k) + (b.toNat - 48) := by
  rw [List.take_add_one, h]; exact Tx.val_snoc _ _
theorem Tx.ofNat_nat (u : Nat) (h : u < 10) : (UInt8.ofNat (48 + u)).toNat = 48 + u := by
  have : ∀ k : Fin 10, (UInt8.ofNat (48 + k.val)).toNat = 48 + k.val := by decide +kernel
  exact this ⟨u, h⟩
theorem Tx.dec_pos (u : Nat) : Lib.decDigits u ≠ [] := by
  rw [Lib.decDigits]; split <;> simp
theorem Tx.dec_dig (u : Nat) : (Lib.decDigits u).all Tx.dig = true := by
  induction u using Nat.strongRecOn with
  | _ u ih =>
    rw [Lib.decDigits]
    by_cases h : u < 10
    · rw [dif_pos h]; simp [Tx.dig]; omega
    · rw [dif_neg h, List.all_append, ih (u / 10) (by omega)]
      simp [Tx.dig]; omega
theorem Tx.dec_val (u : Nat) : Tx.val (Lib.decDigits u) = u := by
  induction u using Nat.strongRecOn with
  | _ u ih =>
    rw [Lib.decDigits]
    by_cases h : u < 10
    · rw [dif_pos h, ← List.nil_append [_], Tx.val_snoc, Tx.val_nil, Tx.ofNat_nat u h]; omega
    · rw [dif_neg h, Tx.val_snoc, ih (u / 10) (by omega), Tx.ofNat_nat (u % 10) (by omega)]; clear ih; omega
theorem Tx.dec_first (u : Nat) (hu : 0 < u) : ∃ b l, Lib.decDigits u = b :: l ∧ b ≠ 48 := by
  induction u using Nat.strongRecOn with
  | _ u ih =>
    rw [Lib.decDigits]
    by_cases h : u < 10
    · rw [dif_pos h]
      refine ⟨_, _, rfl, fun e => ?_⟩
      have := Tx.ofNat_nat u h
      rw [e] at this
      simp at this; omega
    · rw [dif_neg h]
      obtain ⟨b, l, h1, h2⟩ := ih (u / 10) (by omega) (by omega)
      rw [h1]
      exact ⟨b, l ++ _, rfl, h2⟩
theorem Tx.dec_head (u : Nat) : Tx.head (Lib.decDigits u) = true := by
  by_cases h : u < 10
  · rw [Lib.decDigits, dif_pos h]; rfl
  · obtain ⟨b, l, h1, h2⟩ := Tx.dec_first u (by omega)
    rw [h1]
    cases l with
    | nil => rfl
    | cons c l => simp [Tx.head, h2]
theorem Tx.dec_plain (u : Nat) : Tx.plain (Lib.decDigits u) = true := by
  unfold Tx.plain; rw [Tx.dec_head, Tx.dec_dig]; rfl
theorem Tx.nev_plain : Tx.plain Tx.nev = false := by decide
theorem Tx.dec_nev (u : Nat) : Lib.decDigits u ≠ Tx.nev := fun e => by
  have := Tx.dec_plain u
  rw [e, Tx.nev_plain] at this; cases this
theorem Tx.back_digits (n : Nat) : ∀ l : List UInt8, l.length = n → l ≠ [] → Tx.head l = true → l.all Tx.dig = true → Lib.decDigits (Tx.val l) = l := by
  induction n with
  | zero => intro l h h2; exact absurd (List.length_eq_zero_iff.1 h) h2
  | succ n ih =>
    intro l hl hne hh hd
    obtain ⟨m, b, rfl⟩ : ∃ m b, l = m ++ [b] := ⟨l.dropLast, l.getLast hne, (List.dropLast_concat_getLast hne).symm⟩
    rw [Tx.val_snoc]
    rw [List.all_append, Bool.and_eq_true] at hd
    have hb : Tx.dig b = true := by simpa using hd.2
    unfold Tx.dig at hb
    rw [Bool.and_eq_true, decide_eq_true_eq, decide_eq_true_eq] at hb
    have hbb : ∀ k, k = b.toNat - 48 → UInt8.ofNat (48 + k) = b := fun k hk => by
      rw [hk, show 48 + (b.toNat - 48) = b.toNat by omega]; exact UInt8.ofNat_toNat
    cases m with
    | nil =>
      have : 10 * Tx.val [] + (b.toNat - 48) = b.toNat - 48 := by rw [Tx.val_nil]; omega
      rw [this, Lib.decDigits, dif_pos (by omega), hbb _ rfl]; rfl
    | cons c m =>
      have hc : c ≠ 48 := by
        cases m with
        | nil => simpa [Tx.head] using hh
        | cons d m => simpa [Tx.head] using hh
      have hcm : Tx.head (c :: m) = true := by
        cases m with
        | nil => rfl
        | cons d m => simp [Tx.head, hc]
      have h1 := ih (c :: m) (by simp at hl ⊢; omega) (by simp) hcm hd.1
      have hpos : 0 < Tx.val (c :: m) := by
        have hcd : Tx.dig c = true := by have := hd.1; simp at this; exact this.1
        unfold Tx.dig at hcd
        rw [Bool.and_eq_true, decide_eq_true_eq, decide_eq_true_eq] at hcd
        have hcn : c.toNat ≠ 48 := fun e => hc (by
          have : UInt8.ofNat c.toNat = c := UInt8.ofNat_toNat
          rw [← this, e]; rfl)
        unfold Tx.val; rw [Tx.go_cons]; exact Nat.lt_of_lt_of_le (by rw [Tx.one_eq]; omega) (Tx.go_le (Tx.one 0 c) m)
      rw [Lib.decDigits, dif_neg (by omega)]
      rw [show (10 * Tx.val (c :: m) + (b.toNat - 48)) / 10 = Tx.val (c :: m) by omega, h1, hbb _ (by omega)]
theorem Tx.back (l : List UInt8) (h : Tx.plain l = true) : Lib.decDigits (Tx.val l) = l := by
  unfold Tx.plain at h
  rw [Bool.and_eq_true] at h
  exact Tx.back_digits _ l rfl (fun e => by rw [e] at h; simp [Tx.head] at h) h.1 h.2
theorem Tx.parse_text (n : Nat) (h : n ≤ 9223372036854775807) : Tx.parse (Tx.text n) = ((n : Int), 0) := by
  unfold Tx.text
  by_cases e : n = 9223372036854775807
  · rw [if_pos e]; subst e; rfl
  · rw [if_neg e]
    unfold Tx.parse
    rw [if_neg (Tx.dec_nev n), Tx.dec_plain, if_neg (by simp), Tx.dec_val, if_pos (by omega)]
theorem Tx.text_parse (l : List UInt8) (m : Int) (h : Tx.parse l = (m, 0)) : 0 ≤ m ∧ m ≤ 9223372036854775807 ∧ Tx.text m.toNat = l := by
  unfold Tx.parse at h
  split at h
  · injection h with h1 h2; subst h1; refine ⟨by omega, by omega, ?_⟩; unfold Tx.text; rw [if_pos (by decide)]; symm; assumption
  · split at h
    · injection h with h1 h2; cases h2
    · split at h
      · injection h with h1 h2; subst h1
        rename_i hp hv
        refine ⟨by omega, by omega, ?_⟩
        unfold Tx.text
        rw [Int.toNat_natCast, if_neg (by omega)]
        exact Tx.back l (by simpa using hp)
      · injection h with h1 h2; cases h2
theorem Tx.parse_bnd (l : List UInt8) : (Tx.parse l).2 ≠ 0 → (Tx.parse l).1 = 0 := by
  unfold Tx.parse
  split
  · intro h; exact absurd rfl h
  · split
    · intro _; rfl
    · split
      · intro h; exact absurd rfl h
      · intro _; rfl
theorem Tx.dec_size (u : Nat) (h : u ≤ 9223372036854775807) : (Lib.decDigits u).length ≤ 19 := by
  rw [Lib.decDigits_length]
  rcases Nat.lt_or_ge 19 (Lib.nDigits u) with h2 | h2
  · exfalso
    have : ∀ k v, v < 10 ^ (k + 1) → Lib.nDigits v ≤ k + 1 := by
      intro k
      induction k with
      | zero => intro v hv; rw [Lib.nDigits_small (by simpa using hv)]; exact Nat.le_refl _
      | succ k ih =>
        intro v hv
        by_cases h : v < 10
        · rw [Lib.nDigits_small h]; omega
        · rw [Lib.nDigits_big h]
          have := ih (v / 10) (by rw [Nat.pow_succ] at hv; omega)
          omega
    have := this 18 u (by omega)
    omega
  · exact h2
theorem Tx.dec_next (u : Nat) (h : ¬ u < 10) (s : List UInt8) : Lib.decDigits (u / 10) ++ (UInt8.ofNat (48 + u % 10) :: s) = Lib.decDigits u ++ s := by
  rw [Lib.decDigits.eq_def u, dif_neg h, List.append_assoc]; rfl
theorem Tx.dec_last (u : Nat) (h : u < 10) (s : List UInt8) : UInt8.ofNat (48 + u) :: s = Lib.decDigits u ++ s := by
  rw [Lib.decDigits.eq_def u, dif_pos h]; rfl
end Go.Proofs.YtfhhkmjjifbfeaaGreatDoor
