/- Plain arithmetic of what a step costs: whether a setup may be, a step's price, the most, how many turns. No Go in sight. -/
import Derived.Test.YteodknfmghnalaaTkMath
namespace Go.Proofs.Yteodknfmghnalaa.Co

def inB (x m : Int) : Bool := decide (1 ≤ x ∧ x ≤ m)
def goodB (l r i o q v : Int) : Bool := inB l 1024 && (inB r 4096 && (inB i 4096 && (inB o 4096 && (inB q 1000000 && inB v 64))))
def cap (n m : Int) : Int := if n < 0 then 0 else if m < n then m else n
def priceI (i o k f w : Int) : Int := if k = 2 then 1 + cap (cap f i + cap w i) i else if k = 1 then 1 + cap w o else 1
def price (l r i o q v k f w : Int) : Int := if goodB l r i o q v = true then priceI i o k f w else 0
def mostI (i o : Int) : Int := if o < i then 1 + i else 1 + o
def most (l r i o q v : Int) : Int := if goodB l r i o q v = true then mostI i o else 0
def turnsI (i o q : Int) : Int := (mostI i o + q - 1) / q
def turns (l r i o q v : Int) : Int := if goodB l r i o q v = true then turnsI i o q else 0

theorem inB_iff (x m : Int) : inB x m = true ↔ 1 ≤ x ∧ x ≤ m := by unfold inB; simp
theorem inB_no (x m : Int) : inB x m = false ↔ x < 1 ∨ m < x := by unfold inB; simp; omega
theorem good_bd {l r i o q v : Int} (h : goodB l r i o q v = true) : 1 ≤ l ∧ l ≤ 1024 ∧ 1 ≤ r ∧ r ≤ 4096 ∧ 1 ≤ i ∧ i ≤ 4096 ∧ 1 ≤ o ∧ o ≤ 4096 ∧ 1 ≤ q ∧ q ≤ 1000000 ∧ 1 ≤ v ∧ v ≤ 64 := by
  simp only [goodB, Bool.and_eq_true, inB_iff] at h; omega
theorem cap_bd (n m : Int) (hm : 0 ≤ m) : 0 ≤ cap n m ∧ cap n m ≤ m := by unfold cap; omega
theorem cap_mono (a b m : Int) (hm : 0 ≤ m) (h : a ≤ b) : cap a m ≤ cap b m := by unfold cap; omega
theorem priceI_bd (i o k f w : Int) (hi : 0 ≤ i) (ho : 0 ≤ o) : 1 ≤ priceI i o k f w ∧ priceI i o k f w ≤ mostI i o := by
  unfold priceI mostI
  have h1 := cap_bd (cap f i + cap w i) i hi
  have h2 := cap_bd w o ho
  omega
theorem mostI_bd (i o : Int) (hi : 0 ≤ i) (ho : 0 ≤ o) (hi' : i ≤ 4096) (ho' : o ≤ 4096) : 1 ≤ mostI i o ∧ mostI i o ≤ 4097 := by unfold mostI; omega
theorem priceI_mono (i o k f w f' w' : Int) (hi : 0 ≤ i) (ho : 0 ≤ o) (hf : f ≤ f') (hw : w ≤ w') : priceI i o k f w ≤ priceI i o k f' w' := by
  unfold priceI
  have h1 := cap_mono f f' i hi hf
  have h2 := cap_mono w w' i hi hw
  have h3 := cap_mono w w' o ho hw
  have h4 := cap_mono (cap f i + cap w i) (cap f' i + cap w' i) i hi (by omega)
  split
  · omega
  · split <;> omega
/-- The document's own way: first what is fresh, then as much of the rest as there is room for. -/
theorem price_two (i f w : Int) (hi : 0 ≤ i) : cap (cap f i + cap w i) i = cap f i + cap w (i - cap f i) := by
  have h1 := cap_bd f i hi
  unfold cap at *
  omega
theorem price_pos (l r i o q v k f w : Int) : (decide (0 < price l r i o q v k f w) == goodB l r i o q v) = true := by
  unfold price
  by_cases h : goodB l r i o q v = true
  · have b := good_bd h
    have := priceI_bd i o k f w (by omega) (by omega)
    rw [if_pos h, h]; simp; omega
  · have h' : goodB l r i o q v = false := by simpa using h
    rw [if_neg h, h']; simp
theorem price_le (l r i o q v k f w : Int) : price l r i o q v k f w ≤ most l r i o q v := by
  unfold price most
  by_cases h : goodB l r i o q v = true
  · have b := good_bd h
    have := priceI_bd i o k f w (by omega) (by omega)
    rw [if_pos h, if_pos h]; omega
  · rw [if_neg h, if_neg h]; omega
theorem price_bd (l r i o q v k f w : Int) : 0 ≤ price l r i o q v k f w ∧ price l r i o q v k f w ≤ 4097 := by
  unfold price
  by_cases h : goodB l r i o q v = true
  · have b := good_bd h
    have h1 := priceI_bd i o k f w (by omega) (by omega)
    have h2 := mostI_bd i o (by omega) (by omega) (by omega) (by omega)
    rw [if_pos h]; omega
  · rw [if_neg h]; omega
theorem price_mono (l r i o q v k f w f' w' : Int) (hf : f ≤ f') (hw : w ≤ w') : price l r i o q v k f w ≤ price l r i o q v k f' w' := by
  unfold price
  by_cases h : goodB l r i o q v = true
  · have b := good_bd h
    rw [if_pos h, if_pos h]; exact priceI_mono i o k f w f' w' (by omega) (by omega) hf hw
  · rw [if_neg h, if_neg h]; omega
def wait (l r i o q v : Int) : Int := l * turns l r i o q v
def untl (l r i o q v a n : Int) : Int := if goodB l r i o q v = true then Tk.add (Tk.add a (Tk.times n (wait l r i o q v))) n else 0
theorem turnsI_bd (i o q : Int) (hi : 0 ≤ i) (ho : 0 ≤ o) (hi' : i ≤ 4096) (ho' : o ≤ 4096) (hq : 1 ≤ q) : 1 ≤ turnsI i o q ∧ turnsI i o q ≤ 4097 := by
  unfold turnsI
  have m := mostI_bd i o hi ho hi' ho'
  have h1 : 1 ≤ (mostI i o + q - 1) / q := by rw [Int.le_ediv_iff_mul_le (by omega)]; omega
  have h2 : (mostI i o + q - 1) / q < mostI i o + 1 := by
    rw [Int.ediv_lt_iff_lt_mul (by omega)]
    have : mostI i o * 1 ≤ mostI i o * q := Int.mul_le_mul_of_nonneg_left hq (by omega)
    rw [Int.add_mul]; omega
  omega
theorem wait_bd (l r i o q v : Int) : 0 ≤ wait l r i o q v ∧ wait l r i o q v ≤ 4195328 := by
  unfold wait turns
  by_cases h : goodB l r i o q v = true
  · have b := good_bd h
    have t := turnsI_bd i o q (by omega) (by omega) (by omega) (by omega) (by omega)
    rw [if_pos h]
    have h1 : 0 ≤ l * turnsI i o q := Int.mul_nonneg (by omega) (by omega)
    have h2 : l * turnsI i o q ≤ 1024 * 4097 := Int.mul_le_mul (by omega) (by omega) (by omega) (by omega)
    omega
  · rw [if_neg h]; omega
theorem turns_bd (l r i o q v : Int) : 0 ≤ turns l r i o q v ∧ turns l r i o q v ≤ 4097 := by
  unfold turns
  by_cases h : goodB l r i o q v = true
  · have b := good_bd h
    have t := turnsI_bd i o q (by omega) (by omega) (by omega) (by omega) (by omega)
    rw [if_pos h]; omega
  · rw [if_neg h]; omega
/-- The document's own way: count till what the turns give is enough. -/
theorem turns_test (l r i o q v : Int) (k : Int) (hk : 0 ≤ k) (hg : goodB l r i o q v = true ∨ k = 0) : decide (k * q < most l r i o q v) = decide (k < turns l r i o q v) := by
  unfold turns most
  by_cases h : goodB l r i o q v = true
  · have b := good_bd h
    rw [if_pos h, if_pos h]
    unfold turnsI
    rw [decide_eq_decide]
    have e : k < (mostI i o + q - 1) / q ↔ (k + 1) * q ≤ mostI i o + q - 1 := by
      rw [← Int.add_one_le_iff, Int.le_ediv_iff_mul_le (by omega)]
    rw [e, Int.add_mul]; omega
  · obtain rfl : k = 0 := by rcases hg with h' | h'; exact absurd h' h; exact h'
    rw [if_neg h, if_neg h]; simp
theorem turns_mul (l r i o q v : Int) (hg : goodB l r i o q v = true) (k : Int) (hk : 0 ≤ k) (h : k ≤ turns l r i o q v) : 0 ≤ k * q ∧ k * q ≤ 4097000000 := by
  have b := good_bd hg
  have t := turns_bd l r i o q v
  have h1 : 0 ≤ k * q := Int.mul_nonneg hk (by omega)
  have h2 : k * q ≤ 4097 * 1000000 := Int.mul_le_mul (by omega) (by omega) (by omega) (by omega)
  omega
def ls (l r i o q v : Int) : List Int := [l, r, i, o, q, v]
def ms : List Int := [1024, 4096, 4096, 4096, 1000000, 64]
theorem good_all {l r i o q v : Int} (h : ∀ j, j < 6 → inB ((ls l r i o q v).getD j 0) (ms.getD j 0) = true) : goodB l r i o q v = true := by
  have h0 := h 0 (by omega); have h1 := h 1 (by omega); have h2 := h 2 (by omega); have h3 := h 3 (by omega); have h4 := h 4 (by omega); have h5 := h 5 (by omega)
  simp [ls, ms] at h0 h1 h2 h3 h4 h5
  simp [goodB, h0, h1, h2, h3, h4, h5]
theorem good_fail {l r i o q v : Int} {k : Nat} (hk : k < 6) (h : inB ((ls l r i o q v).getD k 0) (ms.getD k 0) = false) : goodB l r i o q v = false := by
  obtain rfl | rfl | rfl | rfl | rfl | rfl : k = 0 ∨ k = 1 ∨ k = 2 ∨ k = 3 ∨ k = 4 ∨ k = 5 := by omega
  all_goals (simp [ls, ms] at h; simp [goodB, h])
end Go.Proofs.Yteodknfmghnalaa.Co
