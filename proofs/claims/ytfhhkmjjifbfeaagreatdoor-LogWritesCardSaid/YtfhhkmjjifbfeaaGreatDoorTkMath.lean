/- Plain arithmetic of ticks that never run over: sums, multiples and what is left, as functions on Int. No Go in sight. -/
namespace Go.Proofs.YtfhhkmjjifbfeaaGreatDoor.Tk

def nev : Int := 9223372036854775807
def own (t : Int) : Int := if t < 0 then 0 else t
def sat (x : Int) : Int := if 9223372036854775807 ≤ x then 9223372036854775807 else x
def add (t d : Int) : Int := sat (own t + own d)
def times (t n : Int) : Int := if n < 1 then 0 else sat (own t * n)
def left (a n : Int) : Int := if a = 9223372036854775807 then 9223372036854775807 else if own a ≤ own n then 0 else own a - own n
def dueB (a n : Int) : Bool := decide (a ≠ 9223372036854775807 ∧ own a ≤ own n)

theorem own_nn (t : Int) : 0 ≤ own t := by unfold own; omega
theorem own_le (t : Int) (h : t ≤ 9223372036854775807) : own t ≤ 9223372036854775807 := by unfold own; omega
theorem own_own (t : Int) : own (own t) = own t := by unfold own; omega
theorem own_of (t : Int) (h : 0 ≤ t) : own t = t := by unfold own; omega
theorem sat_nn (x : Int) (h : 0 ≤ x) : 0 ≤ sat x := by unfold sat; omega
theorem sat_le (x : Int) : sat x ≤ 9223372036854775807 := by unfold sat; omega
theorem sat_of (x : Int) (h : x ≤ 9223372036854775807) : sat x = x := by unfold sat; omega
theorem add_nn (t d : Int) : 0 ≤ add t d := by
  have h1 := own_nn t; have h2 := own_nn d
  exact sat_nn _ (by omega)
theorem add_le (t d : Int) : add t d ≤ 9223372036854775807 := sat_le _
theorem add_comm' (t d : Int) : add t d = add d t := by unfold add; rw [Int.add_comm]
theorem add_ge_left (t d : Int) (h : t ≤ 9223372036854775807) : own t ≤ add t d := by
  unfold add sat own; omega
theorem add_ge_right (t d : Int) (h : d ≤ 9223372036854775807) : own d ≤ add t d := by
  unfold add sat own; omega
theorem add_assoc' (a b c : Int) : add (add a b) c = add a (add b c) := by
  have h1 := own_nn a; have h2 := own_nn b; have h3 := own_nn c
  unfold add
  rw [own_of (sat _) (sat_nn _ (by omega)), own_of (sat (own b + own c)) (sat_nn _ (by omega))]
  generalize own a = x at *; generalize own b = y at *; generalize own c = z at *
  unfold sat; omega
theorem add_mono (a b c : Int) (h : b ≤ c) : add a b ≤ add a c := by
  have : own b ≤ own c := by unfold own; omega
  unfold add sat; omega

theorem mul_ge (p k : Int) (h : 0 ≤ p) (hk : 1 ≤ k) : p ≤ p * k := by
  have := Int.mul_le_mul_of_nonneg_left hk h; rw [Int.mul_one] at this; exact this

/-- A round of the doubling: an odd number of times. -/
theorem dbl_odd (o p k : Int) (ho : 0 ≤ o) (hp : 0 ≤ p) (hk : 0 ≤ k) : sat (sat (o + p) + sat (p + p) * k) = sat (o + p * (2 * k + 1)) := by
  have e : p * (2 * k + 1) = (p + p) * k + p := by rw [Int.mul_add, Int.add_mul, Int.mul_one, show p * (2 * k) = p * k + p * k by rw [Int.mul_left_comm]; omega]
  rw [e]
  by_cases h0 : k = 0
  · subst h0; simp only [Int.mul_zero, Int.add_zero, Int.zero_add]; unfold sat; omega
  · have hk1 : 1 ≤ k := by omega
    have m1 := mul_ge (p + p) k (by omega) hk1
    by_cases h2 : 9223372036854775807 ≤ p + p
    · have e2 : sat (p + p) = 9223372036854775807 := by unfold sat; rw [if_pos h2]
      have m2 := mul_ge 9223372036854775807 k (by omega) hk1
      rw [e2]; generalize 9223372036854775807 * k = a at *; generalize (p + p) * k = b at *
      unfold sat; omega
    · have e2 : sat (p + p) = p + p := by unfold sat; rw [if_neg h2]
      rw [e2]; generalize (p + p) * k = b at *
      unfold sat; omega
theorem dbl_even (o p k : Int) (ho : 0 ≤ o) (hp : 0 ≤ p) (hk : 0 ≤ k) : sat (o + sat (p + p) * k) = sat (o + p * (2 * k)) := by
  have e : p * (2 * k) = (p + p) * k := by rw [Int.add_mul, show p * (2 * k) = p * k + p * k by rw [Int.mul_left_comm]; omega]
  rw [e]
  by_cases h0 : k = 0
  · subst h0; simp
  · have hk1 : 1 ≤ k := by omega
    have m1 := mul_ge (p + p) k (by omega) hk1
    by_cases h2 : 9223372036854775807 ≤ p + p
    · have e2 : sat (p + p) = 9223372036854775807 := by unfold sat; rw [if_pos h2]
      have m2 := mul_ge 9223372036854775807 k (by omega) hk1
      rw [e2]; generalize 9223372036854775807 * k = a at *; generalize (p + p) * k = b at *
      unfold sat; omega
    · have e2 : sat (p + p) = p + p := by unfold sat; rw [if_neg h2]
      rw [e2]

/-- The test ahead of a multiplication: beyond the most that one of n parts may be. -/
theorem mul_big (t n : Int) (hn : 1 ≤ n) (h : 9223372036854775807 / n < t) : 9223372036854775807 ≤ t * n := by
  have h1 : 9223372036854775807 < (9223372036854775807 / n + 1) * n := by
    have := Int.lt_ediv_add_one_mul_self 9223372036854775807 (show 0 < n by omega); exact this
  have h2 : (9223372036854775807 / n + 1) * n ≤ t * n := Int.mul_le_mul_of_nonneg_right (by omega) (by omega)
  omega
theorem mul_small (t n : Int) (hn : 1 ≤ n) (h0 : 0 ≤ t) (h : t ≤ 9223372036854775807 / n) : 0 ≤ t * n ∧ t * n ≤ 9223372036854775807 := by
  have h1 : 9223372036854775807 / n * n ≤ 9223372036854775807 := Int.ediv_mul_le _ (by omega)
  have h2 : t * n ≤ 9223372036854775807 / n * n := Int.mul_le_mul_of_nonneg_right h (by omega)
  have h3 : 0 ≤ t * n := Int.mul_nonneg h0 (by omega)
  omega
theorem times_zero (t n : Int) (h : own t = 0) : times t n = 0 := by
  unfold times; rw [h, Int.zero_mul]; simp [sat]
theorem times_nn (t n : Int) : 0 ≤ times t n := by
  unfold times; split
  · omega
  · exact sat_nn _ (Int.mul_nonneg (own_nn t) (by omega))
theorem times_le (t n : Int) : times t n ≤ 9223372036854775807 := by
  unfold times; split
  · omega
  · exact sat_le _

theorem due_stays (a n d : Int) (hn : n ≤ 9223372036854775807) (h : dueB a n = true) : dueB a (add n d) = true := by
  unfold dueB at *
  have h' := of_decide_eq_true h
  refine decide_eq_true ⟨h'.1, ?_⟩
  rw [own_of (add n d) (add_nn _ _)]
  have := add_ge_left n d hn
  omega
theorem due_left (a n : Int) (ha : a ≤ 9223372036854775807) : dueB a n = decide (left a n = 0) := by
  unfold dueB left own
  by_cases h : a = 9223372036854775807
  · simp [h]
  · rw [if_neg h]; rw [Bool.eq_iff_iff]; simp; omega
theorem add_of (o p : Int) (ho : 0 ≤ o) (hp : 0 ≤ p) : add o p = sat (o + p) := by unfold add; rw [own_of o ho, own_of p hp]
theorem times_start (t n : Int) : sat (0 + own t * own n) = times t n := by
  unfold times
  by_cases h : n < 1
  · have e : own n = 0 := by unfold own; omega
    rw [if_pos h, e]; simp [sat]
  · rw [if_neg h, own_of n (by omega), Int.zero_add]
theorem times_end (o p k t n : Int) (h : sat (o + p * own k) = times t n) (hk : k ≤ 0) (ho : o ≤ 9223372036854775807) : o = times t n := by
  have e : own k = 0 := by unfold own; omega
  rw [← h, e, Int.mul_zero, Int.add_zero, sat_of o ho]
theorem times_odd (o p k t n : Int) (h : sat (o + p * own k) = times t n) (ho : 0 ≤ o) (hp : 0 ≤ p) (hk : 0 < k) (h2 : k % 2 = 1) : sat (add o p + add p p * own (k / 2)) = times t n := by
  rw [add_of o p ho hp, add_of p p hp hp, own_of (k / 2) (by omega), dbl_odd o p (k / 2) ho hp (by omega), ← h, own_of k (by omega)]
  rw [show 2 * (k / 2) + 1 = k by omega]
theorem times_even (o p k t n : Int) (h : sat (o + p * own k) = times t n) (ho : 0 ≤ o) (hp : 0 ≤ p) (hk : 0 < k) (h2 : ¬ k % 2 = 1) : sat (o + add p p * own (k / 2)) = times t n := by
  rw [add_of p p hp hp, own_of (k / 2) (by omega), dbl_even o p (k / 2) ho hp (by omega), ← h, own_of k (by omega)]
  rw [show 2 * (k / 2) = k by omega]

theorem add_times (a n k : Int) (hk : 0 ≤ k) : add (add a (times n k)) n = add a (times n (k + 1)) := by
  have h1 := own_nn a
  have h2 := own_nn n
  have e : times n (k + 1) = sat (own n * k + own n) := by
    unfold times; rw [if_neg (by omega), Int.mul_add, Int.mul_one]
  have m : 0 ≤ own n * k := Int.mul_nonneg h2 hk
  have e2 : times n k = sat (own n * k) := by
    unfold times
    split
    · have : k = 0 := by omega
      subst this; simp [sat]
    · rfl
  rw [e, e2]
  unfold add
  rw [own_of (sat (own n * k)) (sat_nn _ m), own_of (sat (own n * k + own n)) (sat_nn _ (by omega)), own_of (sat _) (sat_nn _ (by have := sat_nn _ m; omega))]
  generalize own n * k = y at *
  generalize own a = x at *
  generalize own n = z at *
  unfold sat
  omega
def minI (a b : Int) : Int := if a ≤ b then a else b
def least (l : List Int) : Int := l.foldl (fun m x => minI m (own x)) 9223372036854775807
theorem least_nil : least [] = 9223372036854775807 := rfl
theorem least_snoc (l : List Int) (x : Int) : least (l ++ [x]) = minI (least l) (own x) := by unfold least; rw [List.foldl_append]; rfl
theorem least_bd (l : List Int) : 0 ≤ least l ∧ least l ≤ 9223372036854775807 := by
  unfold least
  have : ∀ (l : List Int) (m : Int), 0 ≤ m → m ≤ 9223372036854775807 → 0 ≤ l.foldl (fun m x => minI m (own x)) m ∧ l.foldl (fun m x => minI m (own x)) m ≤ 9223372036854775807 := by
    intro l
    induction l with
    | nil => intro m h1 h2; exact ⟨h1, h2⟩
    | cons x l ih => intro m h1 h2; have := own_nn x; exact ih _ (by simp only [minI]; split <;> omega) (by simp only [minI]; split <;> omega)
  exact this l _ (by omega) (by omega)
theorem take_succ_getD (l : List Int) (k : Nat) (h : k < l.length) : l.take (k + 1) = l.take k ++ [l.getD k 0] := by
  rw [List.take_succ_eq_append_getElem h]; simp [List.getD, h]
end Go.Proofs.YtfhhkmjjifbfeaaGreatDoor.Tk
