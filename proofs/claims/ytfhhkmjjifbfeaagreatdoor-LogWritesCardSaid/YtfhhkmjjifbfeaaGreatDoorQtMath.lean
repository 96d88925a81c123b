/- Texts in quotes, as lists of bytes: the sign of a byte, the byte of a sign, a text in quotes, and the text that a text in quotes tells. No Go in sight. -/
import Derived.Test.YtfhhkmjjifbfeaaGreatDoorRows
namespace Go.Proofs.YtfhhkmjjifbfeaaGreatDoor.Qt

/-- The digit of a number below 16. -/
def hexd (n : Nat) : UInt8 := if n < 10 then UInt8.ofNat (48 + n) else UInt8.ofNat (87 + n)
/-- What a digit counts. -/
def val (b : UInt8) : Option Nat := if 48 ≤ b.toNat ∧ b.toNat ≤ 57 then some (b.toNat - 48) else if 97 ≤ b.toNat ∧ b.toNat ≤ 102 then some (b.toNat - 87) else none
/-- A byte's sign. -/
def sgn (b : UInt8) : List UInt8 :=
  if b = 34 then [92, 34] else if b = 92 then [92, 92] else if b = 10 then [92, 110] else if b = 13 then [92, 114] else if b = 9 then [92, 116]
  else if 32 ≤ b.toNat ∧ b.toNat ≤ 126 then [b] else [92, 120, hexd (b.toNat / 16), hexd (b.toNat % 16)]
/-- A text in quotes. -/
def quo (l : List UInt8) : List UInt8 := 34 :: (l.flatMap sgn ++ [34])
/-- The byte that a byte behind a stroke tells. -/
def esc (d : UInt8) : Option UInt8 := if d = 34 then some 34 else if d = 92 then some 92 else if d = 110 then some 10 else if d = 114 then some 13 else if d = 116 then some 9 else none
/-- The two digits: what they count, how many bytes the sign takes. -/
def digs : List UInt8 → UInt8 × Nat × Bool
  | [] => (0, 2, false)
  | e :: r => match val e with
    | none => (0, 2, false)
    | some x => match r with
      | [] => (0, 3, false)
      | f :: _ => match val f with
        | none => (0, 3, false)
        | some y => (UInt8.ofNat (16 * x + y), 4, true)
/-- The byte of the sign with which a text begins. -/
def one : List UInt8 → UInt8 × Nat × Bool
  | [] => (0, 0, false)
  | c :: r => if c.toNat < 32 ∨ 126 < c.toNat ∨ c = 34 then (0, 0, false) else if c ≠ 92 then (c, 1, true) else match r with
    | [] => (0, 1, false)
    | d :: r2 => match esc d with
      | some b => (b, 2, true)
      | none => if d = 120 then digs r2 else (0, 1, false)
/-- The text in quotes, behind the first sign; the error is 0, or 3 at the end, or 2. -/
def rd : Nat → List UInt8 → Nat → List UInt8 → List UInt8 × Nat × Int
  | 0, _, n, _ => ([], n, 2)
  | f + 1, l, n, out => if l.head? = some 34 then (out, n + 1, 0) else
    if (one l).2.2 then rd f (l.drop (one l).2.1) (n + (one l).2.1) (out ++ [(one l).1]) else ([], n + (one l).2.1, if l.length = (one l).2.1 then 3 else 2)
/-- The text in quotes with which a text begins. -/
def read (l : List UInt8) : List UInt8 × Nat × Int := match l with
  | [] => ([], 0, 3)
  | c :: r => if c = 34 then rd (r.length + 1) r 1 [] else ([], 0, 2)
/-- The text that a text is in quotes. -/
def whole (l : List UInt8) : List UInt8 × Int := if (read l).2.2 = 0 ∧ (read l).2.1 < l.length then ([], 2) else ((read l).1, (read l).2.2)

theorem digs_le (l : List UInt8) : 2 ≤ (digs l).2.1 ∧ (digs l).2.1 ≤ l.length + 2 := by
  unfold digs
  split
  · simp
  · split
    · simp
    · split
      · simp
      · split <;> simp
theorem one_le (l : List UInt8) : (one l).2.1 ≤ l.length ∧ ((one l).2.2 = true → 1 ≤ (one l).2.1) := by
  unfold one
  split
  · simp
  · split
    · simp
    · split
      · simp
      · split
        · simp
        · split
          · simp
          · split
            · rename_i r2 _ _ _
              have := digs_le r2
              simp only [List.length_cons]
              omega
            · simp
theorem digs_more (l m : List UInt8) (h : (digs l).2.2 = true ∨ (digs l).2.1 < l.length + 2) : digs (l ++ m) = digs l := by
  unfold digs at *
  match l with
  | [] => simp at h
  | e :: r =>
    simp only [List.cons_append] at h ⊢
    cases hv : val e with
    | none => rfl
    | some x =>
      simp only [hv] at h ⊢
      match r with
      | [] => simp at h
      | f :: r2 => rfl
theorem one_more (l m : List UInt8) (h : (one l).2.2 = true ∨ (one l).2.1 < l.length) : one (l ++ m) = one l := by
  unfold one at *
  match l with
  | [] => simp at h
  | c :: r =>
    simp only [List.cons_append] at h ⊢
    split
    · rfl
    · rename_i h1
      rw [if_neg h1] at h
      split
      · rfl
      · rename_i h2
        rw [if_neg h2] at h
        match r with
        | [] => simp at h
        | d :: r2 =>
          simp only [List.cons_append] at h ⊢
          cases he : esc d with
          | some b => rfl
          | none =>
            simp only [he] at h ⊢
            split
            · rename_i h3
              rw [if_pos h3] at h
              exact digs_more r2 m (by simpa using h)
            · rfl
theorem digs_cut (l : List UInt8) (h : (digs l).2.2 = false) : digs (l.take ((digs l).2.1 - 2)) = (0, (digs l).2.1, false) ∧ (digs l).1 = 0 := by
  unfold digs at *
  match l with
  | [] => simp
  | e :: r =>
    cases hv : val e with
    | none => simp [hv]
    | some x =>
      simp only [hv] at h ⊢
      match r with
      | [] => simp [hv]
      | f :: r2 =>
        simp only at h ⊢
        cases hw : val f with
        | none => simp [hv]
        | some y => simp [hw] at h
/-- What is none is none ahead of its place, and there alone for want of more. -/
theorem one_cut (l : List UInt8) (h : (one l).2.2 = false) : one (l.take (one l).2.1) = (0, (one l).2.1, false) ∧ (one l).1 = 0 := by
  unfold one at *
  match l with
  | [] => simp
  | c :: r =>
    simp only at h ⊢
    by_cases h1 : c.toNat < 32 ∨ 126 < c.toNat ∨ c = 34
    · simp [h1]
    · simp only [h1, if_false] at h ⊢
      by_cases h2 : c ≠ 92
      · simp [h2] at h
      · simp only [h2, if_false] at h ⊢
        match r with
        | [] => simp [h1, h2]
        | d :: r2 =>
          simp only at h ⊢
          cases he : esc d with
          | some b => simp [he] at h
          | none =>
            simp only [he] at h ⊢
            by_cases h3 : d = 120
            · simp only [h3, if_true] at h ⊢
              obtain ⟨k1, k2⟩ := digs_cut r2 h
              have hd := digs_le r2
              obtain ⟨n, hn⟩ : ∃ n, (digs r2).2.1 = n + 2 := ⟨(digs r2).2.1 - 2, by omega⟩
              rw [hn] at k1 ⊢
              have hx : esc 120 = none := by decide
              simp only [List.take_succ_cons, h1, h2, if_false, hx, if_true]
              exact ⟨by simpa using k1, k2⟩
            · simp [h1, h2, h3]
theorem sgn_all : ∀ b : UInt8, one (sgn b) = (b, (sgn b).length, true) ∧ (sgn b).head? ≠ some 34 ∧ 1 ≤ (sgn b).length ∧ (sgn b).length ≤ 4 := by
  have h : ∀ n : Fin 256, one (sgn (UInt8.ofNat n.val)) = (UInt8.ofNat n.val, (sgn (UInt8.ofNat n.val)).length, true) ∧ (sgn (UInt8.ofNat n.val)).head? ≠ some 34 ∧ 1 ≤ (sgn (UInt8.ofNat n.val)).length ∧ (sgn (UInt8.ofNat n.val)).length ≤ 4 := by decide +kernel
  intro b
  have := h ⟨b.toNat, b.toNat_lt⟩
  simpa using this
theorem one_sgn (b : UInt8) (r : List UInt8) : one (sgn b ++ r) = (b, (sgn b).length, true) := by
  rw [one_more _ _ (Or.inl (by rw [(sgn_all b).1]))]; exact (sgn_all b).1
theorem rd_quo : ∀ (s : List UInt8) (f n : Nat) (out m : List UInt8), s.length < f → rd f (s.flatMap sgn ++ (34 :: m)) n out = (out ++ s, n + (s.flatMap sgn).length + 1, 0)
  | [], f + 1, n, out, m, _ => by simp [rd]
  | b :: s, f + 1, n, out, m, h => by
    have hs := sgn_all b
    have hh : ((b :: s).flatMap sgn ++ (34 :: m)).head? ≠ some 34 := by
      rw [List.flatMap_cons, List.append_assoc]
      have h2 := hs.2.1
      have h3 := hs.2.2.1
      match hq : sgn b with
      | [] => rw [hq] at h3; simp at h3
      | c :: r => rw [hq] at h2; simpa using h2
    have ho : one ((b :: s).flatMap sgn ++ (34 :: m)) = (b, (sgn b).length, true) := by
      rw [List.flatMap_cons, List.append_assoc]; exact one_sgn b _
    rw [rd, if_neg hh, ho]
    simp only [if_true]
    rw [List.flatMap_cons, List.append_assoc, List.drop_left, rd_quo s f _ _ m (by simp at h; omega)]
    simp [Nat.add_assoc]
theorem flat_le (s : List UInt8) : s.length ≤ (s.flatMap sgn).length ∧ (s.flatMap sgn).length ≤ 4 * s.length := by
  induction s with
  | nil => simp
  | cons b s ih =>
    have hs := sgn_all b
    rw [List.flatMap_cons, List.length_append, List.length_cons]
    omega
theorem quo_len (s : List UInt8) : (quo s).length = (s.flatMap sgn).length + 2 := by unfold quo; simp
theorem quo_le (s : List UInt8) : (quo s).length ≤ 4 * s.length + 2 := by have := flat_le s; rw [quo_len]; omega
/-- A text in quotes is read as the text, whatever stands behind it. -/
theorem read_quo (s m : List UInt8) : read (quo s ++ m) = (s, (quo s).length, 0) := by
  have h := flat_le s
  unfold read quo
  simp only [List.cons_append, if_true]
  have e : s.flatMap sgn ++ [34] ++ m = s.flatMap sgn ++ (34 :: m) := by simp
  rw [e, rd_quo s _ 1 [] m (by rw [List.length_append, List.length_cons]; omega)]
  simp [Nat.add_comm]
theorem whole_quo (s : List UInt8) : whole (quo s) = (s, 0) := by
  have h := read_quo s []
  rw [List.append_nil] at h
  unfold whole
  rw [h]; simp
/-- An error's place, and its kind; no error. -/
theorem rd_err : ∀ (f : Nat) (l : List UInt8) (n : Nat) (out : List UInt8), l.length < f → (rd f l n out).2.1 ≤ n + l.length ∧ ((rd f l n out).2.2 = 0 ∨ (rd f l n out).1 = [] ∧ n ≤ (rd f l n out).2.1 ∧ (rd f l n out).2.2 = (if (rd f l n out).2.1 = n + l.length then 3 else 2))
  | f + 1, l, n, out, h => by
    rw [rd]
    by_cases h1 : l.head? = some 34
    · rw [if_pos h1]
      have : 1 ≤ l.length := by cases l with | nil => simp at h1 | cons => simp
      exact ⟨by simp; omega, Or.inl rfl⟩
    · rw [if_neg h1]
      have ho := one_le l
      by_cases h2 : (one l).2.2 = true
      · rw [if_pos h2]
        have h3 := ho.2 h2
        have hl : (l.drop (one l).2.1).length = l.length - (one l).2.1 := List.length_drop
        have ih := rd_err f (l.drop (one l).2.1) (n + (one l).2.1) (out ++ [(one l).1]) (by omega)
        have e : n + (one l).2.1 + (l.length - (one l).2.1) = n + l.length := by omega
        rw [hl, e] at ih
        refine ⟨ih.1, ih.2.imp id fun ⟨a, b, c⟩ => ⟨a, by omega, c⟩⟩
      · rw [if_neg h2]
        refine ⟨by simp; exact ho.1, Or.inr ⟨rfl, by simp, ?_⟩⟩
        simp only
        by_cases h4 : l.length = (one l).2.1
        · rw [if_pos h4, if_pos (by omega)]
        · rw [if_neg h4, if_neg (by omega)]
theorem read_err (l : List UInt8) : (read l).2.1 ≤ l.length ∧ ((read l).2.2 = 0 ∨ (read l).1 = [] ∧ (read l).2.2 = if (read l).2.1 = l.length then 3 else 2) := by
  match l with
  | [] => simp [read]
  | c :: r =>
    by_cases h : c = 34
    · have e0 : read (c :: r) = rd (r.length + 1) r 1 [] := by simp [read, h]
      have := rd_err (r.length + 1) r 1 [] (by omega)
      have e : 1 + r.length = (c :: r).length := by simp [Nat.add_comm]
      rw [e] at this
      rw [e0]
      exact ⟨this.1, this.2.imp id fun ⟨a, _, c⟩ => ⟨a, c⟩⟩
    · have e0 : read (c :: r) = ([], 0, 2) := by simp [read, h]
      rw [e0]; simp
/-- More fuel than bytes serves as well. -/
theorem rd_fuel : ∀ (f g : Nat) (l : List UInt8) (n : Nat) (out : List UInt8), l.length < f → l.length < g → rd f l n out = rd g l n out
  | f + 1, g + 1, l, n, out, h, k => by
    rw [rd, rd]
    by_cases h1 : l.head? = some 34
    · rw [if_pos h1, if_pos h1]
    · rw [if_neg h1, if_neg h1]
      by_cases h2 : (one l).2.2 = true
      · rw [if_pos h2, if_pos h2]
        have h3 := (one_le l).2 h2
        have h4 := (one_le l).1
        exact rd_fuel f g _ _ _ (by rw [List.length_drop]; omega) (by rw [List.length_drop]; omega)
      · rw [if_neg h2, if_neg h2]
theorem digs_ok (l m : List UInt8) (h : (digs l).2.2 = true) : digs (l.take ((digs l).2.1 - 2) ++ m) = digs l := by
  unfold digs at *
  match l with
  | [] => simp at h
  | e :: r =>
    cases hv : val e with
    | none => simp [hv] at h
    | some x =>
      simp only [hv] at h ⊢
      match r with
      | [] => simp at h
      | f :: r2 =>
        simp only at h ⊢
        cases hw : val f with
        | none => simp [hw] at h
        | some y => simp [hv, hw]
theorem digs_err (l m : List UInt8) (h : (digs l).2.2 = false) (hl : (digs l).2.1 < l.length + 2) : digs (l.take ((digs l).2.1 - 2 + 1) ++ m) = digs l := by
  unfold digs at *
  match l with
  | [] => simp at hl
  | e :: r =>
    cases hv : val e with
    | none => simp [hv]
    | some x =>
      simp only [hv] at h hl ⊢
      match r with
      | [] => simp at hl
      | f :: r2 =>
        simp only at h ⊢
        cases hw : val f with
        | none => simp [hv, hw]
        | some y => simp [hw] at h
theorem one_ok (l m : List UInt8) (h : (one l).2.2 = true) : one (l.take (one l).2.1 ++ m) = one l := by
  unfold one at *
  match l with
  | [] => simp at h
  | c :: r =>
    simp only at h ⊢
    by_cases h1 : c.toNat < 32 ∨ 126 < c.toNat ∨ c = 34
    · simp [h1] at h
    · simp only [h1, if_false] at h ⊢
      by_cases h2 : c ≠ 92
      · simp [h1, h2]
      · simp only [h2, if_false] at h ⊢
        match r with
        | [] => simp at h
        | d :: r2 =>
          simp only at h ⊢
          cases he : esc d with
          | some b => simp [h1, h2, he]
          | none =>
            simp only [he] at h ⊢
            by_cases h3 : d = 120
            · simp only [h3, if_true] at h ⊢
              have k1 := digs_ok r2 m h
              have hd := digs_le r2
              obtain ⟨n, hn⟩ : ∃ n, (digs r2).2.1 = n + 2 := ⟨(digs r2).2.1 - 2, by omega⟩
              rw [hn] at k1 ⊢
              have hx : esc 120 = none := by decide
              simp only [List.take_succ_cons, List.cons_append, h1, h2, if_false, hx, if_true]
              simpa using k1
            · simp [h3] at h
theorem one_err (l m : List UInt8) (h : (one l).2.2 = false) (hl : (one l).2.1 < l.length) : one (l.take ((one l).2.1 + 1) ++ m) = one l := by
  unfold one at *
  match l with
  | [] => simp at hl
  | c :: r =>
    simp only at h hl ⊢
    by_cases h1 : c.toNat < 32 ∨ 126 < c.toNat ∨ c = 34
    · simp [h1]
    · simp only [h1, if_false] at h hl ⊢
      by_cases h2 : c ≠ 92
      · simp [h2] at h
      · simp only [h2, if_false] at h hl ⊢
        match r with
        | [] => simp at hl
        | d :: r2 =>
          simp only at h hl ⊢
          cases he : esc d with
          | some b => simp [he] at h
          | none =>
            simp only [he] at h hl ⊢
            by_cases h3 : d = 120
            · simp only [h3, if_true] at h hl ⊢
              have k1 := digs_err r2 m h (by simpa using hl)
              have hd := digs_le r2
              obtain ⟨n, hn⟩ : ∃ n, (digs r2).2.1 = n + 2 := ⟨(digs r2).2.1 - 2, by omega⟩
              rw [hn] at k1 ⊢
              have hx : esc 120 = none := by decide
              simp only [List.take_succ_cons, List.cons_append, h1, h2, if_false, hx, if_true]
              simpa using k1
            · simp [h1, h2, h3, he]
theorem head_take (l m : List UInt8) (j : Nat) (hj : 1 ≤ j) (hl : 1 ≤ l.length) : (l.take j ++ m).head? = l.head? := by
  rcases l with _ | ⟨c, r⟩
  · simp at hl
  · rcases j with _ | j
    · omega
    · simp
/-- Ahead of an error's place a text ends too soon; with one byte more it is none there, whatever stands behind. -/
theorem rd_stops : ∀ (f : Nat) (l : List UInt8) (n : Nat) (out m : List UInt8), l.length < f → (rd f l n out).2.2 ≠ 0 → ∃ k, (rd f l n out).2.1 = n + k ∧ k ≤ l.length ∧
    (∀ g, l.length < g → (rd g (l.take k) n out).2.1 = n + k ∧ (rd g (l.take k) n out).2.2 = 3) ∧ (k < l.length → ∀ g, l.length + m.length < g → (rd g (l.take (k + 1) ++ m) n out).2.1 = n + k ∧ (rd g (l.take (k + 1) ++ m) n out).2.2 = 2)
  | f + 1, l, n, out, m, h, hne => by
    rw [rd] at hne ⊢
    by_cases h1 : l.head? = some 34
    · rw [if_pos h1] at hne; simp at hne
    · rw [if_neg h1] at hne ⊢
      have ho := one_le l
      by_cases h2 : (one l).2.2 = true
      · rw [if_pos h2] at hne ⊢
        have h3 := ho.2 h2
        obtain ⟨j, hj⟩ : ∃ j, (one l).2.1 = j := ⟨_, rfl⟩
        obtain ⟨b, hb⟩ : ∃ b, (one l).1 = b := ⟨_, rfl⟩
        have h4 : ∀ m', one (l.take j ++ m') = (b, j, true) := fun m' => by
          have h5 := one_ok l m' h2
          rw [hj] at h5
          rw [h5, ← hj, ← hb, ← h2]
        rw [hj, hb] at hne ⊢
        rw [hj] at ho h3
        have hl : (l.drop j).length = l.length - j := List.length_drop
        have hlt : (l.take j).length = j := by rw [List.length_take]; omega
        obtain ⟨k, k1, k2, k3, k4⟩ := rd_stops f (l.drop j) (n + j) (out ++ [b]) m (by omega) hne
        refine ⟨j + k, by omega, by omega, fun g hg => ?_, fun hk g hg => ?_⟩
        · obtain ⟨g, rfl⟩ : ∃ g', g = g' + 1 := ⟨g - 1, by omega⟩
          have e : l.take (j + k) = l.take j ++ (l.drop j).take k := List.take_add
          rw [rd, e, head_take _ _ _ h3 (by omega), if_neg h1, h4]
          simp only [if_true]
          rw [List.drop_left' hlt]
          have := k3 g (by omega)
          exact ⟨by omega, this.2⟩
        · obtain ⟨g, rfl⟩ : ∃ g', g = g' + 1 := ⟨g - 1, by omega⟩
          have e : l.take (j + k + 1) = l.take j ++ (l.drop j).take (k + 1) := by rw [Nat.add_assoc]; exact List.take_add
          rw [rd, e, List.append_assoc, head_take _ _ _ h3 (by omega), if_neg h1, h4]
          simp only [if_true]
          rw [List.drop_left' hlt]
          have := k4 (by omega) g (by omega)
          exact ⟨by omega, this.2⟩
      · rw [if_neg h2]
        have h2' : (one l).2.2 = false := by simpa using h2
        have hc := one_cut l h2'
        have he := one_err l m h2'
        obtain ⟨j, hj⟩ : ∃ j, (one l).2.1 = j := ⟨_, rfl⟩
        rw [hj] at hc he ho ⊢
        refine ⟨j, rfl, ho.1, fun g hg => ?_, fun hk g hg => ?_⟩
        · obtain ⟨g, rfl⟩ : ∃ g', g = g' + 1 := ⟨g - 1, by omega⟩
          have h5 : (l.take j).head? ≠ some 34 := by
            rcases Nat.eq_zero_or_pos j with rfl | h6
            · simp
            · have := head_take l [] j h6 (by omega)
              rw [List.append_nil] at this
              rw [this]; exact h1
          have hlt : (l.take j).length = j := by rw [List.length_take]; omega
          rw [rd, if_neg h5, hc.1]
          simp [hlt]
        · obtain ⟨g, rfl⟩ : ∃ g', g = g' + 1 := ⟨g - 1, by omega⟩
          have hlt : (l.take (j + 1) ++ m).length = j + 1 + m.length := by rw [List.length_append, List.length_take]; omega
          have ek : one (l.take (j + 1) ++ m) = one l := he hk
          rw [rd, head_take _ _ _ (by omega) (by omega), if_neg h1, ek, h2', hj, hlt]
          simp
          omega
theorem read_stops (l m : List UInt8) (h : (read l).2.2 ≠ 0) : (read l).2.1 ≤ l.length ∧ ((read l).2.2 = 3 ↔ (read l).2.1 = l.length) ∧ (read (l.take (read l).2.1)).2.1 = (read l).2.1 ∧ (read (l.take (read l).2.1)).2.2 = 3 ∧
    ((read l).2.1 < l.length → (read (l.take ((read l).2.1 + 1) ++ m)).2.1 = (read l).2.1 ∧ (read (l.take ((read l).2.1 + 1) ++ m)).2.2 = 2) := by
  have he := read_err l
  have h3 : (read l).2.2 = if (read l).2.1 = l.length then 3 else 2 := by
    rcases he.2 with h' | h'
    · exact absurd h' h
    · exact h'.2
  refine ⟨he.1, ?_, ?_⟩
  · rw [h3]; split <;> simp_all
  · match l with
    | [] => simp [read]
    | c :: r =>
      by_cases hc : c = 34
      · subst hc
        have e : read (34 :: r) = rd (r.length + 1) r 1 [] := by simp [read]
        rw [e] at h ⊢
        obtain ⟨k, k1, k2, k3, k4⟩ := rd_stops (r.length + 1) r 1 [] m (by omega) h
        rw [k1, Nat.add_comm 1 k]
        have e1 : read ((34 :: r).take (k + 1)) = rd (r.length + 1) (r.take k) 1 [] := by
          rw [List.take_succ_cons]
          simp only [read, if_true]
          exact rd_fuel _ _ _ _ _ (by omega) (by rw [List.length_take]; omega)
        have e2 : read ((34 :: r).take (k + 1 + 1) ++ m) = rd (r.length + m.length + 1) (r.take (k + 1) ++ m) 1 [] := by
          rw [List.take_succ_cons, List.cons_append]
          simp only [read, if_true]
          exact rd_fuel _ _ _ _ _ (by omega) (by rw [List.length_append, List.length_take]; omega)
        rw [e1, e2]
        have a := k3 (r.length + 1) (by omega)
        refine ⟨by omega, a.2, fun hk => ?_⟩
        have b := k4 (by simp at hk; omega) (r.length + m.length + 1) (by omega)
        exact ⟨by omega, b.2⟩
      · have e : read (c :: r) = ([], 0, 2) := by simp [read, hc]
        rw [e]
        simp [read, hc]
end Go.Proofs.YtfhhkmjjifbfeaaGreatDoor.Qt
