/- Several texts in one. -/
import Derived.Test.YtdchedkhlfmpeaaDoorRows
import Derived.WalkKit
import Derived.ProofKit
import Derived.OpenShut
import Derived.Handy
import Derived.WalkLawsBesides
import Derived.WalkSpells
import Derived.Lib.Hide
import Derived.Deep.QuietTactic
import Derived.BigQuiet
import Derived.RegionTactic
import Derived.ChangeAlike
import Derived.WalkSmall
import Derived.Deep.RegionHeld3
/- Plain arithmetic of ticks that never run over: sums, multiples and what is left, as functions on Int. No Go in sight. -/
namespace Go.Proofs.YtdchedkhlfmpeaaDoor.Tk

def nev : Int := 9223372036854775807
def own (t : Int) : Int := if t < 0 then 0 else t
def sat (x : Int) : Int := if 9223372036854775807 ≤ x then 9223372036854775807 else x
def add (t d : Int) : Int := sat (own t + own d)
def times (t n : Int) : Int := if n < 1 then 0 else sat (own t * n)
def left (a n : Int) : Int := if a = 9223372036854775807 then 9223372036854775807 else if own a ≤ own n then 0 else own a - own n
def dueB (a n : Int) : Bool := decide (a ≠ 9223372036854775807 ∧ own a ≤ own n)

theorem own_nn (t : Int) : 0 ≤ own t := by unfold own; omega
theorem own_le (t : Int) (h : t ≤ 9223372036854775807) : own t ≤ 9223372036854775807 := by unfold own; omega
theorem own_own (t : Int) : own (own t) = own t := by unfold own; omega
theorem own_of (t : Int) (h : 0 ≤ t) : own t = t := by unfold own; omega
theorem sat_nn (x : Int) (h : 0 ≤ x) : 0 ≤ sat x := by unfold sat; omega
theorem sat_le (x : Int) : sat x ≤ 9223372036854775807 := by unfold sat; omega
theorem sat_of (x : Int) (h : x ≤ 9223372036854775807) : sat x = x := by unfold sat; omega
theorem add_nn (t d : Int) : 0 ≤ add t d := by
  have h1 := own_nn t; have h2 := own_nn d
  exact sat_nn _ (by omega)
theorem add_le (t d : Int) : add t d ≤ 9223372036854775807 := sat_le _
theorem add_comm' (t d : Int) : add t d = add d t := by unfold add; rw [Int.add_comm]
theorem add_ge_left (t d : Int) (h : t ≤ 9223372036854775807) : own t ≤ add t d := by
  unfold add sat own; omega
theorem add_ge_right (t d : Int) (h : d ≤ 9223372036854775807) : own d ≤ add t d := by
  unfold add sat own; omega
theorem add_assoc' (a b c : Int) : add (add a b) c = add a (add b c) := by
  have h1 := own_nn a; have h2 := own_nn b; have h3 := own_nn c
  unfold add
  rw [own_of (sat _) (sat_nn _ (by omega)), own_of (sat (own b + own c)) (sat_nn _ (by omega))]
  generalize own a = x at *; generalize own b = y at *; generalize own c = z at *
  unfold sat; omega
theorem add_mono (a b c : Int) (h : b ≤ c) : add a b ≤ add a c := by
  have : own b ≤ own c := by unfold own; omega
  unfold add sat; omega

theorem mul_ge (p k : Int) (h : 0 ≤ p) (hk : 1 ≤ k) : p ≤ p * k := by
  have := Int.mul_le_mul_of_nonneg_left hk h; rw [Int.mul_one] at this; exact this

/-- A round of the doubling: an odd number of times. -/
theorem dbl_odd (o p k : Int) (ho : 0 ≤ o) (hp : 0 ≤ p) (hk : 0 ≤ k) : sat (sat (o + p) + sat (p + p) * k) = sat (o + p * (2 * k + 1)) := by
  have e : p * (2 * k + 1) = (p + p) * k + p := by rw [Int.mul_add, Int.add_mul, Int.mul_one, show p * (2 * k) = p * k + p * k by rw [Int.mul_left_comm]; omega]
  rw [e]
  by_cases h0 : k = 0
  · subst h0; simp only [Int.mul_zero, Int.add_zero, Int.zero_add]; unfold sat; omega
  · have hk1 : 1 ≤ k := by omega
    have m1 := mul_ge (p + p) k (by omega) hk1
    by_cases h2 : 9223372036854775807 ≤ p + p
    · have e2 : sat (p + p) = 9223372036854775807 := by unfold sat; rw [if_pos h2]
      have m2 := mul_ge 9223372036854775807 k (by omega) hk1
      rw [e2]; generalize 9223372036854775807 * k = a at *; generalize (p + p) * k = b at *
      unfold sat; omega
    · have e2 : sat (p + p) = p + p := by unfold sat; rw [if_neg h2]
      rw [e2]; generalize (p + p) * k = b at *
      unfold sat; omega
theorem dbl_even (o p k : Int) (ho : 0 ≤ o) (hp : 0 ≤ p) (hk : 0 ≤ k) : sat (o + sat (p + p) * k) = sat (o + p * (2 * k)) := by
  have e : p * (2 * k) = (p + p) * k := by rw [Int.add_mul, show p * (2 * k) = p * k + p * k by rw [Int.mul_left_comm]; omega]
  rw [e]
  by_cases h0 : k = 0
  · subst h0; simp
  · have hk1 : 1 ≤ k := by omega
    have m1 := mul_ge (p + p) k (by omega) hk1
    by_cases h2 : 9223372036854775807 ≤ p + p
    · have e2 : sat (p + p) = 9223372036854775807 := by unfold sat; rw [if_pos h2]
      have m2 := mul_ge 9223372036854775807 k (by omega) hk1
      rw [e2]; generalize 9223372036854775807 * k = a at *; generalize (p + p) * k = b at *
      unfold sat; omega
    · have e2 : sat (p + p) = p + p := by unfold sat; rw [if_neg h2]
      rw [e2]

/-- The test ahead of a multiplication: beyond the most that one of n parts may be. -/
theorem mul_big (t n : Int) (hn : 1 ≤ n) (h : 9223372036854775807 / n < t) : 9223372036854775807 ≤ t * n := by
  have h1 : 9223372036854775807 < (9223372036854775807 / n + 1) * n := by
    have := Int.lt_ediv_add_one_mul_self 9223372036854775807 (show 0 < n by omega); exact this
  have h2 : (9223372036854775807 / n + 1) * n ≤ t * n := Int.mul_le_mul_of_nonneg_right (by omega) (by omega)
  omega
theorem mul_small (t n : Int) (hn : 1 ≤ n) (h0 : 0 ≤ t) (h : t ≤ 9223372036854775807 / n) : 0 ≤ t * n ∧ t * n ≤ 9223372036854775807 := by
  have h1 : 9223372036854775807 / n * n ≤ 9223372036854775807 := Int.ediv_mul_le _ (by omega)
  have h2 : t * n ≤ 9223372036854775807 / n * n := Int.mul_le_mul_of_nonneg_right h (by omega)
  have h3 : 0 ≤ t * n := Int.mul_nonneg h0 (by omega)
  omega
theorem times_zero (t n : Int) (h : own t = 0) : times t n = 0 := by
  unfold times; rw [h, Int.zero_mul]; simp [sat]
theorem times_nn (t n : Int) : 0 ≤ times t n := by
  unfold times; split
  · omega
  · exact sat_nn _ (Int.mul_nonneg (own_nn t) (by omega))
theorem times_le (t n : Int) : times t n ≤ 9223372036854775807 := by
  unfold times; split
  · omega
  · exact sat_le _

theorem due_stays (a n d : Int) (hn : n ≤ 9223372036854775807) (h : dueB a n = true) : dueB a (add n d) = true := by
  unfold dueB at *
  have h' := of_decide_eq_true h
  refine decide_eq_true ⟨h'.1, ?_⟩
  rw [own_of (add n d) (add_nn _ _)]
  have := add_ge_left n d hn
  omega
theorem due_left (a n : Int) (ha : a ≤ 9223372036854775807) : dueB a n = decide (left a n = 0) := by
  unfold dueB left own
  by_cases h : a = 9223372036854775807
  · simp [h]
  · rw [if_neg h]; rw [Bool.eq_iff_iff]; simp; omega
theorem add_of (o p : Int) (ho : 0 ≤ o) (hp : 0 ≤ p) : add o p = sat (o + p) := by unfold add; rw [own_of o ho, own_of p hp]
theorem times_start (t n : Int) : sat (0 + own t * own n) = times t n := by
  unfold times
  by_cases h : n < 1
  · have e : own n = 0 := by unfold own; omega
    rw [if_pos h, e]; simp [sat]
  · rw [if_neg h, own_of n (by omega), Int.zero_add]
theorem times_end (o p k t n : Int) (h : sat (o + p * own k) = times t n) (hk : k ≤ 0) (ho : o ≤ 9223372036854775807) : o = times t n := by
  have e : own k = 0 := by unfold own; omega
  rw [← h, e, Int.mul_zero, Int.add_zero, sat_of o ho]
theorem times_odd (o p k t n : Int) (h : sat (o + p * own k) = times t n) (ho : 0 ≤ o) (hp : 0 ≤ p) (hk : 0 < k) (h2 : k % 2 = 1) : sat (add o p + add p p * own (k / 2)) = times t n := by
  rw [add_of o p ho hp, add_of p p hp hp, own_of (k / 2) (by omega), dbl_odd o p (k / 2) ho hp (by omega), ← h, own_of k (by omega)]
  rw [show 2 * (k / 2) + 1 = k by omega]
theorem times_even (o p k t n : Int) (h : sat (o + p * own k) = times t n) (ho : 0 ≤ o) (hp : 0 ≤ p) (hk : 0 < k) (h2 : ¬ k % 2 = 1) : sat (o + add p p * own (k / 2)) = times t n := by
  rw [add_of p p hp hp, own_of (k / 2) (by omega), dbl_even o p (k / 2) ho hp (by omega), ← h, own_of k (by omega)]
  rw [show 2 * (k / 2) = k by omega]

theorem add_times (a n k : Int) (hk : 0 ≤ k) : add (add a (times n k)) n = add a (times n (k + 1)) := by
  have h1 := own_nn a
  have h2 := own_nn n
  have e : times n (k + 1) = sat (own n * k + own n) := by
    unfold times; rw [if_neg (by omega), Int.mul_add, Int.mul_one]
  have m : 0 ≤ own n * k := Int.mul_nonneg h2 hk
  have e2 : times n k = sat (own n * k) := by
    unfold times
    split
    · have : k = 0 := by omega
      subst this; simp [sat]
    · rfl
  rw [e, e2]
  unfold add
  rw [own_of (sat (own n * k)) (sat_nn _ m), own_of (sat (own n * k + own n)) (sat_nn _ (by omega)), own_of (sat _) (sat_nn _ (by have := sat_nn _ m; omega))]
  generalize own n * k = y at *
  generalize own a = x at *
  generalize own n = z at *
  unfold sat
  omega
def minI (a b : Int) : Int := if a ≤ b then a else b
def least (l : List Int) : Int := l.foldl (fun m x => minI m (own x)) 9223372036854775807
theorem least_nil : least [] = 9223372036854775807 := rfl
theorem least_snoc (l : List Int) (x : Int) : least (l ++ [x]) = minI (least l) (own x) := by unfold least; rw [List.foldl_append]; rfl
theorem least_bd (l : List Int) : 0 ≤ least l ∧ least l ≤ 9223372036854775807 := by
  unfold least
  have : ∀ (l : List Int) (m : Int), 0 ≤ m → m ≤ 9223372036854775807 → 0 ≤ l.foldl (fun m x => minI m (own x)) m ∧ l.foldl (fun m x => minI m (own x)) m ≤ 9223372036854775807 := by
    intro l
    induction l with
    | nil => intro m h1 h2; exact ⟨h1, h2⟩
    | cons x l ih => intro m h1 h2; have := own_nn x; exact ih _ (by simp only [minI]; split <;> omega) (by simp only [minI]; split <;> omega)
  exact this l _ (by omega) (by omega)
theorem take_succ_getD (l : List Int) (k : Nat) (h : k < l.length) : l.take (k + 1) = l.take k ++ [l.getD k 0] := by
  rw [List.take_succ_eq_append_getElem h]; simp [List.getD, h]
end Go.Proofs.YtdchedkhlfmpeaaDoor.Tk
/- Contracts of the functions on ticks (package tick, and the document's own answers): each hands back the plain number of Tk, and leaves the world alone. -/
namespace Go.Proofs.YtdchedkhlfmpeaaDoor
open Go.ChangeShapes Go.WideShapes Go.ChangeAt Go.RowKit
set_option linter.unusedSimpArgs false
set_option linter.unusedVariables false

theorem ret_i64 {a b : Int} (h : a = b) : Ending.returned (.int .i64 a) = .returned (.int .i64 b) := by rw [h]
theorem ret_b {a b : Bool} (h : a = b) : Ending.returned (.bool a) = .returned (.bool b) := by rw [h]

theorem own_any (t : Int) (w : World) : Calls Tryd.prog 45 #[.int .i64 t] w fun e w' => e = .returned (.int .i64 (Tk.own t)) ∧ w = w' := by
  by_cases h : t < 0
  · go_enter Tryd.func45, Tryd.ntmps45
    go_wp2
    go_ret
    exact ⟨ret_i64 (by unfold Tk.own; omega), rfl⟩
  · go_enter Tryd.func45, Tryd.ntmps45
    go_wp2
    go_ret
    exact ⟨ret_i64 (by unfold Tk.own; omega), rfl⟩
theorem rown_any (t : Int) (w : World) : Calls Tryd.prog 49 #[.int .i64 t] w fun e w' => e = .returned (.int .i64 (Tk.own t)) ∧ w = w' := by
  by_cases h : t < 0
  · go_enter Tryd.func49, Tryd.ntmps49
    go_wp2
    go_ret
    exact ⟨ret_i64 (by unfold Tk.own; omega), rfl⟩
  · go_enter Tryd.func49, Tryd.ntmps49
    go_wp2
    go_ret
    exact ⟨ret_i64 (by unfold Tk.own; omega), rfl⟩
end Go.Proofs.YtdchedkhlfmpeaaDoor
/- Contracts of the loops on ticks: a tick so often, bit by bit (the document's own answer), and the least of some; and of layer 1's own check that ticks are added and read. -/
namespace Go.Proofs.YtdchedkhlfmpeaaDoor
open Go.ChangeShapes Go.WideShapes Go.ChangeAt Go.RowKit
set_option linter.unusedSimpArgs false
set_option linter.unusedVariables false

theorem quietw {P : Program} {f : FuncId} {args : Array Value} {w : World} {n : Nat} {v : Value}
    (h : Calls P f args (w.drewN n) fun e w' => e = .returned v ∧ w.drewN n = w') : Calls P f args (w.drewN n) fun e w'' => e = .returned v ∧ ∃ m, w'' = w.drewN m :=
  h.mono fun _ _ ⟨he, hm⟩ => ⟨he, n, hm.symm⟩
theorem quietwa {P : Program} {f : FuncId} {args : Array Value} {w : World} {a n : Nat} {v : Value}
    (h : Calls P f args (w.drewN (a + n)) fun e w' => e = .returned v ∧ w.drewN (a + n) = w') : Calls P f args (w.drewN (a + n)) fun e w'' => e = .returned v ∧ ∃ m, w'' = w.drewN (a + m) :=
  h.mono fun _ _ ⟨he, hm⟩ => ⟨he, n, hm.symm⟩

end Go.Proofs.YtdchedkhlfmpeaaDoor
/- Plain arithmetic of what a step costs: whether a setup may be, a step's price, the most, how many turns. No Go in sight. -/
namespace Go.Proofs.YtdchedkhlfmpeaaDoor.Co

def inB (x m : Int) : Bool := decide (1 ≤ x ∧ x ≤ m)
def goodB (l r i o q v : Int) : Bool := inB l 1024 && (inB r 4096 && (inB i 4096 && (inB o 4096 && (inB q 1000000 && inB v 64))))
def cap (n m : Int) : Int := if n < 0 then 0 else if m < n then m else n
def priceI (i o k f w : Int) : Int := if k = 2 then 1 + cap (cap f i + cap w i) i else if k = 1 then 1 + cap w o else 1
def price (l r i o q v k f w : Int) : Int := if goodB l r i o q v = true then priceI i o k f w else 0
def mostI (i o : Int) : Int := if o < i then 1 + i else 1 + o
def most (l r i o q v : Int) : Int := if goodB l r i o q v = true then mostI i o else 0
def turnsI (i o q : Int) : Int := (mostI i o + q - 1) / q
def turns (l r i o q v : Int) : Int := if goodB l r i o q v = true then turnsI i o q else 0

theorem inB_iff (x m : Int) : inB x m = true ↔ 1 ≤ x ∧ x ≤ m := by unfold inB; simp
theorem inB_no (x m : Int) : inB x m = false ↔ x < 1 ∨ m < x := by unfold inB; simp; omega
theorem good_bd {l r i o q v : Int} (h : goodB l r i o q v = true) : 1 ≤ l ∧ l ≤ 1024 ∧ 1 ≤ r ∧ r ≤ 4096 ∧ 1 ≤ i ∧ i ≤ 4096 ∧ 1 ≤ o ∧ o ≤ 4096 ∧ 1 ≤ q ∧ q ≤ 1000000 ∧ 1 ≤ v ∧ v ≤ 64 := by
  simp only [goodB, Bool.and_eq_true, inB_iff] at h; omega
theorem cap_bd (n m : Int) (hm : 0 ≤ m) : 0 ≤ cap n m ∧ cap n m ≤ m := by unfold cap; omega
theorem cap_mono (a b m : Int) (hm : 0 ≤ m) (h : a ≤ b) : cap a m ≤ cap b m := by unfold cap; omega
theorem priceI_bd (i o k f w : Int) (hi : 0 ≤ i) (ho : 0 ≤ o) : 1 ≤ priceI i o k f w ∧ priceI i o k f w ≤ mostI i o := by
  unfold priceI mostI
  have h1 := cap_bd (cap f i + cap w i) i hi
  have h2 := cap_bd w o ho
  omega
theorem mostI_bd (i o : Int) (hi : 0 ≤ i) (ho : 0 ≤ o) (hi' : i ≤ 4096) (ho' : o ≤ 4096) : 1 ≤ mostI i o ∧ mostI i o ≤ 4097 := by unfold mostI; omega
theorem priceI_mono (i o k f w f' w' : Int) (hi : 0 ≤ i) (ho : 0 ≤ o) (hf : f ≤ f') (hw : w ≤ w') : priceI i o k f w ≤ priceI i o k f' w' := by
  unfold priceI
  have h1 := cap_mono f f' i hi hf
  have h2 := cap_mono w w' i hi hw
  have h3 := cap_mono w w' o ho hw
  have h4 := cap_mono (cap f i + cap w i) (cap f' i + cap w' i) i hi (by omega)
  split
  · omega
  · split <;> omega
/-- The document's own way: first what is fresh, then as much of the rest as there is room for. -/
theorem price_two (i f w : Int) (hi : 0 ≤ i) : cap (cap f i + cap w i) i = cap f i + cap w (i - cap f i) := by
  have h1 := cap_bd f i hi
  unfold cap at *
  omega
theorem price_pos (l r i o q v k f w : Int) : (decide (0 < price l r i o q v k f w) == goodB l r i o q v) = true := by
  unfold price
  by_cases h : goodB l r i o q v = true
  · have b := good_bd h
    have := priceI_bd i o k f w (by omega) (by omega)
    rw [if_pos h, h]; simp; omega
  · have h' : goodB l r i o q v = false := by simpa using h
    rw [if_neg h, h']; simp
theorem price_le (l r i o q v k f w : Int) : price l r i o q v k f w ≤ most l r i o q v := by
  unfold price most
  by_cases h : goodB l r i o q v = true
  · have b := good_bd h
    have := priceI_bd i o k f w (by omega) (by omega)
    rw [if_pos h, if_pos h]; omega
  · rw [if_neg h, if_neg h]; omega
theorem price_bd (l r i o q v k f w : Int) : 0 ≤ price l r i o q v k f w ∧ price l r i o q v k f w ≤ 4097 := by
  unfold price
  by_cases h : goodB l r i o q v = true
  · have b := good_bd h
    have h1 := priceI_bd i o k f w (by omega) (by omega)
    have h2 := mostI_bd i o (by omega) (by omega) (by omega) (by omega)
    rw [if_pos h]; omega
  · rw [if_neg h]; omega
theorem price_mono (l r i o q v k f w f' w' : Int) (hf : f ≤ f') (hw : w ≤ w') : price l r i o q v k f w ≤ price l r i o q v k f' w' := by
  unfold price
  by_cases h : goodB l r i o q v = true
  · have b := good_bd h
    rw [if_pos h, if_pos h]; exact priceI_mono i o k f w f' w' (by omega) (by omega) hf hw
  · rw [if_neg h, if_neg h]; omega
def wait (l r i o q v : Int) : Int := l * turns l r i o q v
def untl (l r i o q v a n : Int) : Int := if goodB l r i o q v = true then Tk.add (Tk.add a (Tk.times n (wait l r i o q v))) n else 0
theorem turnsI_bd (i o q : Int) (hi : 0 ≤ i) (ho : 0 ≤ o) (hi' : i ≤ 4096) (ho' : o ≤ 4096) (hq : 1 ≤ q) : 1 ≤ turnsI i o q ∧ turnsI i o q ≤ 4097 := by
  unfold turnsI
  have m := mostI_bd i o hi ho hi' ho'
  have h1 : 1 ≤ (mostI i o + q - 1) / q := by rw [Int.le_ediv_iff_mul_le (by omega)]; omega
  have h2 : (mostI i o + q - 1) / q < mostI i o + 1 := by
    rw [Int.ediv_lt_iff_lt_mul (by omega)]
    have : mostI i o * 1 ≤ mostI i o * q := Int.mul_le_mul_of_nonneg_left hq (by omega)
    rw [Int.add_mul]; omega
  omega
theorem wait_bd (l r i o q v : Int) : 0 ≤ wait l r i o q v ∧ wait l r i o q v ≤ 4195328 := by
  unfold wait turns
  by_cases h : goodB l r i o q v = true
  · have b := good_bd h
    have t := turnsI_bd i o q (by omega) (by omega) (by omega) (by omega) (by omega)
    rw [if_pos h]
    have h1 : 0 ≤ l * turnsI i o q := Int.mul_nonneg (by omega) (by omega)
    have h2 : l * turnsI i o q ≤ 1024 * 4097 := Int.mul_le_mul (by omega) (by omega) (by omega) (by omega)
    omega
  · rw [if_neg h]; omega
theorem turns_bd (l r i o q v : Int) : 0 ≤ turns l r i o q v ∧ turns l r i o q v ≤ 4097 := by
  unfold turns
  by_cases h : goodB l r i o q v = true
  · have b := good_bd h
    have t := turnsI_bd i o q (by omega) (by omega) (by omega) (by omega) (by omega)
    rw [if_pos h]; omega
  · rw [if_neg h]; omega
/-- The document's own way: count till what the turns give is enough. -/
theorem turns_test (l r i o q v : Int) (k : Int) (hk : 0 ≤ k) (hg : goodB l r i o q v = true ∨ k = 0) : decide (k * q < most l r i o q v) = decide (k < turns l r i o q v) := by
  unfold turns most
  by_cases h : goodB l r i o q v = true
  · have b := good_bd h
    rw [if_pos h, if_pos h]
    unfold turnsI
    rw [decide_eq_decide]
    have e : k < (mostI i o + q - 1) / q ↔ (k + 1) * q ≤ mostI i o + q - 1 := by
      rw [← Int.add_one_le_iff, Int.le_ediv_iff_mul_le (by omega)]
    rw [e, Int.add_mul]; omega
  · obtain rfl : k = 0 := by rcases hg with h' | h'; exact absurd h' h; exact h'
    rw [if_neg h, if_neg h]; simp
theorem turns_mul (l r i o q v : Int) (hg : goodB l r i o q v = true) (k : Int) (hk : 0 ≤ k) (h : k ≤ turns l r i o q v) : 0 ≤ k * q ∧ k * q ≤ 4097000000 := by
  have b := good_bd hg
  have t := turns_bd l r i o q v
  have h1 : 0 ≤ k * q := Int.mul_nonneg hk (by omega)
  have h2 : k * q ≤ 4097 * 1000000 := Int.mul_le_mul (by omega) (by omega) (by omega) (by omega)
  omega
def ls (l r i o q v : Int) : List Int := [l, r, i, o, q, v]
def ms : List Int := [1024, 4096, 4096, 4096, 1000000, 64]
theorem good_all {l r i o q v : Int} (h : ∀ j, j < 6 → inB ((ls l r i o q v).getD j 0) (ms.getD j 0) = true) : goodB l r i o q v = true := by
  have h0 := h 0 (by omega); have h1 := h 1 (by omega); have h2 := h 2 (by omega); have h3 := h 3 (by omega); have h4 := h 4 (by omega); have h5 := h 5 (by omega)
  simp [ls, ms] at h0 h1 h2 h3 h4 h5
  simp [goodB, h0, h1, h2, h3, h4, h5]
theorem good_fail {l r i o q v : Int} {k : Nat} (hk : k < 6) (h : inB ((ls l r i o q v).getD k 0) (ms.getD k 0) = false) : goodB l r i o q v = false := by
  obtain rfl | rfl | rfl | rfl | rfl | rfl : k = 0 ∨ k = 1 ∨ k = 2 ∨ k = 3 ∨ k = 4 ∨ k = 5 := by omega
  all_goals (simp [ls, ms] at h; simp [goodB, h])
end Go.Proofs.YtdchedkhlfmpeaaDoor.Co
/- Contracts of the functions on what steps cost (package cost, and the document's own answers): each hands back the plain number of Co; new blocks may come, nothing that was there is written. -/
namespace Go.Proofs.YtdchedkhlfmpeaaDoor
open Go.ChangeShapes Go.WideShapes Go.ChangeAt Go.RowKit
set_option linter.unusedSimpArgs false
set_option linter.unusedVariables false

theorem below3 (w : World) (o o' o'' : Obj) : Below w.heap.size w (((w.alloc o).alloc o').alloc o'') := (((Below.refl _ _).alloc (Nat.le_refl _) o).alloc (by simp) o').alloc (by simp; omega) o''
end Go.Proofs.YtdchedkhlfmpeaaDoor
/- Contracts of Price and Most (package cost, and the document's own answers), over those of Good. -/
namespace Go.Proofs.YtdchedkhlfmpeaaDoor
open Go.ChangeShapes Go.WideShapes Go.ChangeAt Go.RowKit
set_option linter.unusedSimpArgs false
set_option linter.unusedVariables false

theorem below1 {w w1 : World} {o : Obj} (hb : Below (w.alloc o).heap.size (w.alloc o) w1) : Below w.heap.size w w1 := ((Below.refl _ _).alloc (Nat.le_refl _) o).trans (hb.mono (by simp))
theorem setup_cells {w w1 : World} {l r i o q v : Int} {t : TypeId} (hb : Below (w.alloc (Obj.cells #[.int .i64 l, .int .i64 r, .int .i64 i, .int .i64 o, .int .i64 q, .int .i64 v] t)).heap.size (w.alloc (Obj.cells #[.int .i64 l, .int .i64 r, .int .i64 i, .int .i64 o, .int .i64 q, .int .i64 v] t)) w1) :
    w1.cell? ⟨w.heap.size, 0, none⟩ = some (.int .i64 l) ∧ w1.cell? ⟨w.heap.size, 1, none⟩ = some (.int .i64 r) ∧ w1.cell? ⟨w.heap.size, 2, none⟩ = some (.int .i64 i) ∧ w1.cell? ⟨w.heap.size, 3, none⟩ = some (.int .i64 o) ∧ w1.cell? ⟨w.heap.size, 4, none⟩ = some (.int .i64 q) ∧ w1.cell? ⟨w.heap.size, 5, none⟩ = some (.int .i64 v) := by
  refine ⟨?_, ?_, ?_, ?_, ?_, ?_⟩
  all_goals (rw [hb.cell (by simp)]; simp [go_sem])
end Go.Proofs.YtdchedkhlfmpeaaDoor
/- Contracts of Turns, Wait and Until (package cost). -/
namespace Go.Proofs.YtdchedkhlfmpeaaDoor
open Go.ChangeShapes Go.WideShapes Go.ChangeAt Go.RowKit
set_option linter.unusedSimpArgs false
set_option linter.unusedVariables false

def SetupAt (W : World) (b : Nat) (l r i o q v : Int) : Prop :=
  W.cell? ⟨b, 0, none⟩ = some (.int .i64 l) ∧ W.cell? ⟨b, 1, none⟩ = some (.int .i64 r) ∧ W.cell? ⟨b, 2, none⟩ = some (.int .i64 i) ∧ W.cell? ⟨b, 3, none⟩ = some (.int .i64 o) ∧ W.cell? ⟨b, 4, none⟩ = some (.int .i64 q) ∧ W.cell? ⟨b, 5, none⟩ = some (.int .i64 v)
theorem SetupAt.kept {W W' : World} {B b : Nat} {l r i o q v : Int} (h : SetupAt W b l r i o q v) (hb : Below B W W') (hlt : b < B) : SetupAt W' b l r i o q v := by
  obtain ⟨h0, h1, h2, h3, h4, h5⟩ := h
  exact ⟨(hb.cell (by simpa using hlt)).trans h0, (hb.cell (by simpa using hlt)).trans h1, (hb.cell (by simpa using hlt)).trans h2, (hb.cell (by simpa using hlt)).trans h3, (hb.cell (by simpa using hlt)).trans h4, (hb.cell (by simpa using hlt)).trans h5⟩
theorem setup_S {W W' : World} {B b : Nat} {l r i o q v : Int} (h : SetupAt W b l r i o q v) (hlt : b < B) (hb : Below B W W') :
    Below B W W' ∧ W'.cell? ⟨b, 0, none⟩ = some (.int .i64 l) ∧ W'.cell? ⟨b, 1, none⟩ = some (.int .i64 r) ∧ W'.cell? ⟨b, 2, none⟩ = some (.int .i64 i) ∧ W'.cell? ⟨b, 3, none⟩ = some (.int .i64 o) ∧ W'.cell? ⟨b, 4, none⟩ = some (.int .i64 q) ∧ W'.cell? ⟨b, 5, none⟩ = some (.int .i64 v) := ⟨hb, h.kept hb hlt⟩
theorem below_on {B : Nat} {W W' W'' : World} (hB : B ≤ W.heap.size) (h : Below B W W') (hb : Below W'.heap.size W' W'') : Below B W W'' := h.trans (hb.mono (by have := h.size; omega))

theorem setup_new (w : World) (l r i o q v : Int) (t : TypeId) : SetupAt (w.alloc (Obj.cells #[.int .i64 l, .int .i64 r, .int .i64 i, .int .i64 o, .int .i64 q, .int .i64 v] t)) w.heap.size l r i o q v := by
  refine ⟨?_, ?_, ?_, ?_, ?_, ?_⟩
  all_goals simp [go_sem]
theorem next_new {w w1 : World} {l r i o q v : Int} {t : TypeId} (hb : Below (w.alloc (Obj.cells #[.int .i64 l, .int .i64 r, .int .i64 i, .int .i64 o, .int .i64 q, .int .i64 v] t)).heap.size (w.alloc (Obj.cells #[.int .i64 l, .int .i64 r, .int .i64 i, .int .i64 o, .int .i64 q, .int .i64 v] t)) w1) :
    SetupAt w1 w.heap.size l r i o q v ∧ Below w.heap.size w w1 ∧ w.heap.size < w1.heap.size := ⟨setup_cells hb, below1 hb, by have := hb.size; simp at this; omega⟩
theorem next_on {w wa wb : World} {b : Nat} {l r i o q v : Int} (hb : Below wa.heap.size wa wb) (h0 : wa.cell? ⟨b, 0, none⟩ = some (.int .i64 l)) (h1 : wa.cell? ⟨b, 1, none⟩ = some (.int .i64 r)) (h2 : wa.cell? ⟨b, 2, none⟩ = some (.int .i64 i)) (h3 : wa.cell? ⟨b, 3, none⟩ = some (.int .i64 o)) (h4 : wa.cell? ⟨b, 4, none⟩ = some (.int .i64 q)) (h5 : wa.cell? ⟨b, 5, none⟩ = some (.int .i64 v))
    (hB : Below w.heap.size w wa) (hs : b < wa.heap.size) : SetupAt wb b l r i o q v ∧ Below w.heap.size w wb ∧ b < wb.heap.size :=
  ⟨SetupAt.kept (B := wa.heap.size) ⟨h0, h1, h2, h3, h4, h5⟩ hb hs, below_on (Nat.le_refl _) hB hb, by have := hb.size; omega⟩
end Go.Proofs.YtdchedkhlfmpeaaDoor
