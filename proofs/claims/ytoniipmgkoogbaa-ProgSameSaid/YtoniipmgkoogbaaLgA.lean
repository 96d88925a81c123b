/- Several texts in one. -/
import Derived.Test.YtoniipmgkoogbaaGl
import Derived.Test.YtoniipmgkoogbaaGlB
import Derived.Test.YtoniipmgkoogbaaRw
import Derived.Shelf.SlicesQ.Reverse
import Derived.Shelf.SlicesE.Clone
import Derived.Lib.OwnBridge
/- Patterns: what they match. -/
namespace Go.Proofs.Ytoniipmgkoogbaa
set_option linter.unusedSimpArgs false
set_option linter.unusedVariables false

abbrev LgL := Nat → Bool × BitVec 256
abbrev LgT := Nat → UInt8
def Lg.fits (x : Bool × BitVec 256) (c : UInt8) : Bool := x.2.getLsbD c.toNat
/-- The first k items match the bytes from i to n. -/
def Lg.D (L : LgL) (T : LgT) (i : Nat) : Nat → Nat → Bool
  | 0, n => n == i
  | k + 1, n => if (L k).1 then (List.range (n + 1)).any (Lg.D L T i k) else (decide (0 < n) && (Lg.D L T i k (n - 1) && Lg.fits (L k) (T (n - 1))))
theorem lgD_zero (L : LgL) (T : LgT) (i n : Nat) : Lg.D L T i 0 n = (n == i) := by rw [Lg.D]
theorem lgD_run {L : LgL} {k : Nat} (h : (L k).1 = true) (T : LgT) (i n : Nat) : Lg.D L T i (k + 1) n = (List.range (n + 1)).any (Lg.D L T i k) := by rw [Lg.D, if_pos h]
theorem lgD_one0 {L : LgL} {k : Nat} (h : (L k).1 = false) (T : LgT) (i : Nat) : Lg.D L T i (k + 1) 0 = false := by rw [Lg.D, if_neg (by rw [h]; simp)]; rfl
theorem lgD_one {L : LgL} {k : Nat} (h : (L k).1 = false) (T : LgT) (i n : Nat) : Lg.D L T i (k + 1) (n + 1) = (Lg.D L T i k n && Lg.fits (L k) (T n)) := by rw [Lg.D, if_neg (by rw [h]; simp)]; simp
theorem lgD_run0 {L : LgL} {k : Nat} (h : (L k).1 = true) (T : LgT) (i : Nat) : Lg.D L T i (k + 1) 0 = Lg.D L T i k 0 := by rw [lgD_run h]; simp
theorem lgD_runS {L : LgL} {k : Nat} (h : (L k).1 = true) (T : LgT) (i n : Nat) : Lg.D L T i (k + 1) (n + 1) = (Lg.D L T i (k + 1) n || Lg.D L T i k (n + 1)) := by
  rw [lgD_run h, lgD_run h, List.range_succ (n := n + 1), List.any_append]; simp
/-- Nothing matches backwards. -/
theorem lgD_lt (L : LgL) (T : LgT) (i : Nat) : ∀ k n, n < i → Lg.D L T i k n = false
  | 0, n, h => by rw [lgD_zero, beq_eq_false_iff_ne]; omega
  | k + 1, n, h => by
    cases hr : (L k).1 with
    | true =>
      rw [lgD_run hr, List.any_eq_false]
      intro j hj
      rw [lgD_lt L T i k j (by have := List.mem_range.1 hj; omega)]; simp
    | false =>
      cases n with
      | zero => exact lgD_one0 hr T i
      | succ n => rw [lgD_one hr, lgD_lt L T i k n (by omega)]; rfl
/-- As the list goes: where a run comes next, it counts with it. -/
def Lg.E (L : LgL) (len : Nat) (T : LgT) (i k n : Nat) : Bool := if decide (k < len) && (L k).1 then Lg.D L T i (k + 1) n else Lg.D L T i k n
/-- Runs may be no bytes. -/
def Lg.P (L : LgL) (f : Nat → Bool) : Nat → Bool
  | 0 => f 0
  | k + 1 => f (k + 1) || (Lg.P L f k && (L k).1)
def Lg.nx (L : LgL) (len : Nat) (g : Nat → Bool) (c : UInt8) (anew : Bool) : Nat → Bool
  | 0 => anew || (decide (0 < len) && (L 0).1 && g 0)
  | k + 1 => (decide (k + 1 < len) && (L (k + 1)).1 && g (k + 1)) || (!(L k).1 && Lg.fits (L k) c && g k)
def Lg.S (L : LgL) (len : Nat) (T : LgT) (anew : Bool) : Nat → Nat → Bool
  | 0 => Lg.P L (fun k => k == 0)
  | n + 1 => Lg.P L (Lg.nx L len (Lg.S L len T anew n) (T n) anew)
theorem lgE_len (L : LgL) (len : Nat) (T : LgT) (i n : Nat) : Lg.E L len T i len n = Lg.D L T i len n := by
  unfold Lg.E; rw [if_neg (by simp)]
theorem lgP_base (L : LgL) (T : LgT) (i : Nat) : ∀ k, Lg.P L (fun k => k == 0) k = Lg.D L T i k i
  | 0 => by rw [lgD_zero, Lg.P]; simp
  | k + 1 => by
    rw [Lg.P, lgP_base L T i k]
    cases hr : (L k).1 with
    | true =>
      rw [lgD_run hr, List.range_succ, List.any_append]
      have : (List.range i).any (Lg.D L T i k) = false := by
        rw [List.any_eq_false]
        intro j hj
        rw [lgD_lt L T i k j (List.mem_range.1 hj)]; simp
      rw [this]; simp
    | false =>
      cases i with
      | zero => rw [lgD_one0 hr]; simp
      | succ i => rw [lgD_one hr, lgD_lt L T _ k i (by omega)]; simp
theorem lgE_base (L : LgL) (len : Nat) (T : LgT) (i k : Nat) : Lg.E L len T i k i = Lg.D L T i k i := by
  unfold Lg.E
  by_cases h : (decide (k < len) && (L k).1) = true
  · rw [if_pos h]
    have hr : (L k).1 = true := by simp at h; exact h.2
    rw [← lgP_base L T i (k + 1), ← lgP_base L T i k, Lg.P, hr]; simp
  · rw [if_neg h]
theorem lgP_or (L : LgL) (f g : Nat → Bool) : ∀ k, Lg.P L (fun j => f j || g j) k = (Lg.P L f k || Lg.P L g k)
  | 0 => rfl
  | k + 1 => by rw [Lg.P, lgP_or L f g k, Lg.P, Lg.P]; cases f (k+1) <;> cases g (k+1) <;> cases Lg.P L f k <;> cases Lg.P L g k <;> simp
theorem lgP_congr (L : LgL) (f g : Nat → Bool) : ∀ k, (∀ j ≤ k, f j = g j) → Lg.P L f k = Lg.P L g k
  | 0, h => h 0 (Nat.le_refl _)
  | k + 1, h => by rw [Lg.P, Lg.P, lgP_congr L f g k (fun j hj => h j (by omega)), h (k + 1) (Nat.le_refl _)]
/-- A byte more. -/
theorem lgE_step (L : LgL) (len : Nat) (T : LgT) (i n : Nat) (hi : i ≤ n) : ∀ k ≤ len, Lg.P L (Lg.nx L len (fun k => Lg.E L len T i k n) (T n) false) k = Lg.E L len T i k (n + 1)
  | 0, hk => by
    rw [Lg.P, Lg.nx]
    unfold Lg.E
    by_cases h : (decide (0 < len) && (L 0).1) = true
    · rw [if_pos h, if_pos h, h]
      have hr : (L 0).1 = true := by simp at h; exact h.2
      rw [lgD_runS hr, lgD_zero]
      have : (n + 1 == i) = false := by rw [beq_eq_false_iff_ne]; omega
      rw [this]; simp
    · rw [if_neg h, if_neg h, Bool.eq_false_iff.2 h, lgD_zero, lgD_zero]
      have : (n + 1 == i) = false := by rw [beq_eq_false_iff_ne]; omega
      rw [this]; simp
  | k + 1, hk => by
    rw [Lg.P, lgE_step L len T i n hi k (by omega), Lg.nx]
    have h0 : decide (k < len) = true := by simp; omega
    cases hr : (L k).1 with
    | true =>
      have e1 : Lg.E L len T i k (n + 1) = Lg.D L T i (k + 1) (n + 1) := by unfold Lg.E; rw [if_pos (by rw [h0, hr]; rfl)]
      rw [e1]
      unfold Lg.E
      by_cases h : (decide (k + 1 < len) && (L (k + 1)).1) = true
      · rw [if_pos h, if_pos h, h]
        have hr2 : (L (k + 1)).1 = true := by simp at h; exact h.2
        rw [lgD_runS hr2]; simp
      · rw [if_neg h, Bool.eq_false_iff.2 h]; simp
    | false =>
      have e1 : Lg.E L len T i k n = Lg.D L T i k n := by unfold Lg.E; rw [if_neg (by rw [hr]; simp)]
      rw [e1]
      have e2 : (Lg.fits (L k) (T n) && Lg.D L T i k n) = Lg.D L T i (k + 1) (n + 1) := by rw [lgD_one hr, Bool.and_comm]
      unfold Lg.E
      by_cases h : (decide (k + 1 < len) && (L (k + 1)).1) = true
      · rw [if_pos h, if_pos h, h]
        have hr2 : (L (k + 1)).1 = true := by simp at h; exact h.2
        rw [lgD_runS hr2, ← e2]; simp
      · rw [if_neg h, Bool.eq_false_iff.2 h, ← e2]; simp
/-- All that holds behind n bytes, begun at the start alone. -/
theorem lgS_one (L : LgL) (len : Nat) (T : LgT) : ∀ n k, k ≤ len → Lg.S L len T false n k = Lg.E L len T 0 k n
  | 0, k, hk => by rw [Lg.S, lgP_base L T 0 k, lgE_base]
  | n + 1, k, hk => by
    rw [Lg.S, ← lgE_step L len T 0 n (by omega) k hk]
    refine lgP_congr L _ _ k fun j hj => ?_
    cases j with
    | zero => rw [Lg.nx, Lg.nx, lgS_one L len T n 0 (by omega)]
    | succ j => rw [Lg.nx, Lg.nx, lgS_one L len T n (j + 1) (by omega), lgS_one L len T n j (by omega)]
theorem lgnx_any (L : LgL) (len : Nat) (l : List Nat) (g : Nat → Nat → Bool) (c : UInt8) (j : Nat) : Lg.nx L len (fun k => l.any fun i => g i k) c true j = ((j == 0) || l.any fun i => Lg.nx L len (g i) c false j) := by
  induction l with
  | nil => cases j <;> simp [Lg.nx]
  | cons x l ih =>
    cases j with
    | zero => simp [Lg.nx]
    | succ j =>
      simp only [Lg.nx, List.any_cons] at ih ⊢
      have h0 : ((j + 1 == 0) : Bool) = false := by simp
      rw [h0, Bool.false_or] at ih ⊢
      rw [← ih]
      cases (decide (j + 1 < len) && (L (j + 1)).1) <;> cases ((!(L j).1) && Lg.fits (L j) c) <;> cases g x (j + 1) <;> cases g x j <;> simp
theorem lgP_any (L : LgL) (l : List Nat) (f : Nat → Nat → Bool) (k : Nat) : Lg.P L (fun j => l.any fun i => f i j) k = l.any fun i => Lg.P L (f i) k := by
  induction l with
  | nil => simp only [List.any_nil]; induction k with
    | zero => rfl
    | succ k ih => rw [Lg.P, ih]; rfl
  | cons x l ih => simp only [List.any_cons]; rw [lgP_or, ih]
theorem any_congr_mem {l : List Nat} {f g : Nat → Bool} (h : ∀ i ∈ l, f i = g i) : l.any f = l.any g := by
  induction l with
  | nil => rfl
  | cons x l ih => rw [List.any_cons, List.any_cons, h x (by simp), ih (fun i hi => h i (by simp [hi]))]
/-- All that holds behind n bytes, begun anew at each of them. -/
theorem lgS_any (L : LgL) (len : Nat) (T : LgT) : ∀ n k, k ≤ len → Lg.S L len T true n k = (List.range (n + 1)).any fun i => Lg.E L len T i k n
  | 0, k, hk => by rw [Lg.S, lgP_base L T 0 k]; simp [lgE_base]
  | n + 1, k, hk => by
    rw [Lg.S, List.range_succ, List.any_append]
    have e : Lg.P L (Lg.nx L len (Lg.S L len T true n) (T n) true) k = Lg.P L (fun j => (j == 0) || (List.range (n + 1)).any fun i => Lg.nx L len (fun k => Lg.E L len T i k n) (T n) false j) k := by
      refine lgP_congr L _ _ k fun j hj => ?_
      rw [← lgnx_any]
      cases j with
      | zero => rw [Lg.nx, Lg.nx, lgS_any L len T n 0 (by omega)]
      | succ j => rw [Lg.nx, Lg.nx, lgS_any L len T n (j + 1) (by omega), lgS_any L len T n j (by omega)]
    rw [e, lgP_or, lgP_any, lgP_base L T (n + 1) k, Bool.or_comm]
    congr 1
    · exact any_congr_mem fun i hi => lgE_step L len T i n (by have := List.mem_range.1 hi; omega) k hk
    · simp [lgE_base]
end Go.Proofs.Ytoniipmgkoogbaa
/- Patterns: a walk through a text. -/
namespace Go.Proofs.Ytoniipmgkoogbaa
open Go.ChangeShapes Go.WideShapes Go.ChangeAt Go.RowKit
set_option linter.unusedSimpArgs false
set_option linter.unusedVariables false

/-- The list as a function. -/
def lgL (l : List (Bool × BitVec 256)) : LgL := fun k => (l[k]?).getD (false, 0)
theorem blg_congr {f h : Nat → Bool} {n : Nat} (hh : ∀ j, j < n → f j = h j) : bl f n = bl h n := by
  unfold bl
  exact List.map_congr_left fun j hj => by rw [hh j (List.mem_range.1 hj)]
theorem blg_set (f h : Nat → Bool) (n i : Nat) (b : Bool) (hh : ∀ j, j < n → h j = if j = i then b else f j) : (bl f n).set i (.bool b) = bl h n := by
  apply List.ext_getElem?
  intro j
  rw [List.getElem?_set]
  by_cases hj : j < n
  · rw [bl_at h hj, hh j hj]
    by_cases e : i = j
    · subst e; simp [bl_length, hj]
    · have e2 : ¬ j = i := fun x => e x.symm
      rw [if_neg e, bl_at f hj, if_neg e2]
  · rw [List.getElem?_eq_none (by rw [bl_length]; omega)]
    by_cases e : i = j
    · subst e; simp [bl_length, hj]
    · rw [if_neg e, List.getElem?_eq_none (by rw [bl_length]; omega)]
theorem bl_rep (n : Nat) : List.replicate n (.bool false) = bl (fun _ => false) n := by
  unfold bl; apply List.ext_getElem? ; intro i; by_cases h : i < n <;> simp [h]
/-- pass, so far. -/
def Lg.Q (L : LgL) (f : Nat → Bool) (k j : Nat) : Bool := if j ≤ k then Lg.P L f j else f j
theorem lgQ_zero (L : LgL) (f : Nat → Bool) (j : Nat) : Lg.Q L f 0 j = f j := by
  unfold Lg.Q
  by_cases e : j ≤ 0
  · rw [if_pos e]; obtain rfl : j = 0 := by omega
    rfl
  · rw [if_neg e]
theorem lgQ_here (L : LgL) (f : Nat → Bool) (k : Nat) : Lg.Q L f k k = Lg.P L f k := by unfold Lg.Q; rw [if_pos (Nat.le_refl _)]
theorem lgQ_no {L : LgL} {f : Nat → Bool} {k : Nat} (h : (Lg.P L f k && (L k).1) = false) (j : Nat) : Lg.Q L f k j = Lg.Q L f (k + 1) j := by
  unfold Lg.Q
  by_cases e : j = k + 1
  · subst e
    rw [if_neg (by omega), if_pos (Nat.le_refl _), Lg.P, h, Bool.or_false]
  · by_cases e2 : j ≤ k
    · rw [if_pos e2, if_pos (by omega)]
    · rw [if_neg e2, if_neg (by omega)]
theorem lgQ_yes {L : LgL} {f : Nat → Bool} {k : Nat} (h : (Lg.P L f k && (L k).1) = true) (j : Nat) : Lg.Q L f (k + 1) j = if j = k + 1 then true else Lg.Q L f k j := by
  unfold Lg.Q
  by_cases e : j = k + 1
  · subst e
    rw [if_pos rfl, if_pos (Nat.le_refl _), Lg.P, h, Bool.or_true]
  · rw [if_neg e]
    by_cases e2 : j ≤ k
    · rw [if_pos e2, if_pos (by omega)]
    · rw [if_neg e2, if_neg (by omega)]
end Go.Proofs.Ytoniipmgkoogbaa
/- Patterns: a byte goes by. -/
namespace Go.Proofs.Ytoniipmgkoogbaa
open Go.ChangeShapes Go.WideShapes Go.ChangeAt Go.RowKit
set_option linter.unusedSimpArgs false
set_option linter.unusedVariables false

/-- A byte went by the first k items. -/
def Lg.N (L : LgL) (k : Nat) (g : Nat → Bool) (c : UInt8) (anew : Bool) : Nat → Bool
  | 0 => anew || (decide (0 < k) && (L 0).1 && g 0)
  | j + 1 => (decide (j + 1 < k) && (L (j + 1)).1 && g (j + 1)) || (decide (j < k) && (!(L j).1 && Lg.fits (L j) c && g j))
theorem lgN_step (L : LgL) (k : Nat) (g : Nat → Bool) (c : UInt8) (anew : Bool) (j : Nat) : Lg.N L (k + 1) g c anew j = (Lg.N L k g c anew j || (decide (j = k) && (L k).1 && g k) || (decide (j = k + 1) && (!(L k).1 && Lg.fits (L k) c && g k))) := by
  cases j with
  | zero =>
    by_cases e : k = 0
    · subst e; simp [Lg.N]
    · have e1 : 0 < k := by omega
      have e2 : ¬ 0 = k := by omega
      simp [Lg.N, e1, e2]
  | succ j =>
    by_cases a1 : j + 1 < k
    · have a2 : j + 1 < k + 1 := by omega
      have a3 : j < k + 1 := by omega
      have a4 : j < k := by omega
      have a5 : ¬ j + 1 = k := by omega
      have a6 : ¬ j + 1 = k + 1 := by omega
      have a7 : ¬ j = k := by omega
      simp [Lg.N, a1, a2, a3, a4, a5, a6, a7]
    · by_cases e : j + 1 = k
      · subst e
        have a2 : j < j + 1 + 1 := by omega
        simp [Lg.N, a2, Bool.or_comm]
      · by_cases e2 : j = k
        · subst e2
          have a2 : ¬ j + 1 < j := by omega
          simp [Lg.N, a2]
        · have a2 : ¬ j + 1 < k + 1 := by omega
          have a3 : ¬ j < k + 1 := by omega
          have a4 : ¬ j < k := by omega
          have a6 : ¬ j + 1 = k + 1 := by omega
          simp [Lg.N, a1, a2, a3, a4, e, e2, a6]
theorem lgN_zero (L : LgL) (g : Nat → Bool) (c : UInt8) (anew : Bool) (j : Nat) : Lg.N L 0 g c anew j = if j = 0 then anew else false := by
  cases j <;> simp [Lg.N]
theorem lgN_all (L : LgL) (n : Nat) (g : Nat → Bool) (c : UInt8) (anew : Bool) (j : Nat) (hj : j < n + 1) : Lg.N L n g c anew j = Lg.nx L n g c anew j := by
  cases j with
  | zero => rfl
  | succ j =>
    have : j < n := by omega
    simp [Lg.N, Lg.nx, this]
theorem lgN_no {L : LgL} {k : Nat} {g : Nat → Bool} {c : UInt8} (h : g k = false) (anew : Bool) (j : Nat) : Lg.N L k g c anew j = Lg.N L (k + 1) g c anew j := by
  rw [lgN_step, h]; simp
theorem lgN_un {L : LgL} {k : Nat} {g : Nat → Bool} {c : UInt8} (h : (L k).1 = false) (h2 : Lg.fits (L k) c = false) (anew : Bool) (j : Nat) : Lg.N L k g c anew j = Lg.N L (k + 1) g c anew j := by
  rw [lgN_step, h, h2]; simp
theorem lgN_run {L : LgL} {k : Nat} {g : Nat → Bool} {c : UInt8} (h : g k = true) (h2 : (L k).1 = true) (anew : Bool) (j : Nat) : Lg.N L (k + 1) g c anew j = if j = k then true else Lg.N L k g c anew j := by
  rw [lgN_step, h, h2]; by_cases e : j = k <;> simp [e]
theorem lgN_fit {L : LgL} {k : Nat} {g : Nat → Bool} {c : UInt8} (h : g k = true) (h2 : (L k).1 = false) (h3 : Lg.fits (L k) c = true) (anew : Bool) (j : Nat) : Lg.N L (k + 1) g c anew j = if j = k + 1 then true else Lg.N L k g c anew j := by
  rw [lgN_step, h, h2, h3]; by_cases e : j = k + 1 <;> simp [e]
theorem zeroBool (w : World) : (zeroValue 4).run Try.prog w = .ok (.bool false) w := by kernel_rfl
end Go.Proofs.Ytoniipmgkoogbaa
/- Patterns: a walk begins; whether all items match. -/
namespace Go.Proofs.Ytoniipmgkoogbaa
open Go.ChangeShapes Go.WideShapes Go.ChangeAt Go.RowKit
set_option linter.unusedSimpArgs false
set_option linter.unusedVariables false

theorem rep_bool2 (n : Nat) (w : World) : Blk (w.alloc (.cells (Array.replicate n (.bool false)) 4)) w.heap.size (bl (fun _ => false) n) 4 := by
  have := Blk.newA w (Array.replicate n (.bool false)) 4
  rw [Array.toList_replicate, bl_rep] at this
  exact this
theorem infoB2 : (Try.prog.info? 4).map (fun i => (i.zero, i.size, i.bytes)) = some (some (.bool false), 1, 1) := by kernel_rfl
theorem rep_bool3 (n : Nat) (w : World) : Blk (w.alloc (.cells ((Array.replicate (n + 1) (.bool false)).setIfInBounds 0 (.bool true)) 4)) w.heap.size (bl (fun k => k == 0) (n + 1)) 4 := by
  have := Blk.newA w ((Array.replicate (n + 1) (.bool false)).setIfInBounds 0 (.bool true)) 4
  rw [Array.toList_setIfInBounds, Array.toList_replicate, bl_rep, blg_set _ (fun k => k == 0) (n + 1) 0 true (fun j _ => by by_cases e : j = 0 <;> simp [e])] at this
  exact this
end Go.Proofs.Ytoniipmgkoogbaa
/- Patterns: whether one matches. -/
namespace Go.Proofs.Ytoniipmgkoogbaa
open Go.ChangeShapes Go.WideShapes Go.ChangeAt Go.RowKit
set_option linter.unusedSimpArgs false
set_option linter.unusedVariables false

/-- A text as a function. -/
def lgT (t : List UInt8) : LgT := fun n => (t[n]?).getD 0
theorem lgT_at {s : ByteArray} {t : List UInt8} (h : s.data.toList = t) {k : Nat} (hk : k < s.size) : s[k] = lgT t k := by
  unfold lgT
  rw [← h, byte_at hk]
  rfl
/-- All items match all bytes. -/
def Lg.m (l : List (Bool × BitVec 256)) (t : List UInt8) : Bool := Lg.D (lgL l) (lgT t) 0 l.length t.length
/-- How many bytes are matched at least. -/
def Lg.least (l : List (Bool × BitVec 256)) : Nat := l.countP fun x => !x.1
/-- Whether no text is matched. -/
def Lg.void (l : List (Bool × BitVec 256)) : Bool := l.any fun x => !x.1 && decide (x.2 = 0)
theorem least_le (l : List (Bool × BitVec 256)) : Lg.least l ≤ l.length := List.countP_le_length
theorem least_take {l : List (Bool × BitVec 256)} {k : Nat} {r : Bool} {X : BitVec 256} (h : l[k]? = some (r, X)) : Lg.least (l.take (k + 1)) = Lg.least (l.take k) + if r then 0 else 1 := by
  unfold Lg.least
  rw [List.take_add_one, h, List.countP_append]
  cases r <;> simp
set_option maxRecDepth 20000 in
set_option maxHeartbeats 4000000 in
theorem lg_least (l : List (Bool × BitVec 256)) (m : Nat) (hm : Lg.least l = m) (n : Nat) (a : Option Addr) (c : Nat) (hn : l.length = n) (hn6 : n ≤ 1000000) (w : World) (hI : IA w a l) :
    Calls Try.prog 42 #[.slice a n c] w fun e w' => e = .returned (.int .i64 m) ∧ Below w.heap.size w w' := by
  have HG := Lib.hid (And.intro hI (And.intro hn hm))
  clear hI hn hm
  go_enter Try.func42, Try.ntmps42
  go_wp2
  go_loopw [3, 8] (fun q i wr => ∃ k j : Nat, i = .int .i64 k ∧ q = .int .i64 j ∧ k ≤ n ∧ j ≤ k ∧ Hid (Lg.least (l.take k) = j) ∧ Hid (Below w.heap.size w wr)) (fun _ i _ => n - (intOf i).toNat)
  case atStart => exact ⟨0, 0, rfl, rfl, by omega, by omega, Lib.hid rfl, Lib.hid (Below.refl _ _)⟩
  case round =>
    obtain ⟨k, j, rfl, rfl, hk, hjk, HK, HB⟩ := hrel
    have j0 : (0 : Int) ≤ (k : Int) := by omega
    by_cases hkl : k < n
    · have w1 : IntKind.i64.wrap ((j : Int) + 1) = (j : Int) + 1 := IntWalk.i64_in _ (by omega)
      obtain ⟨x, hx⟩ : ∃ x, l[k]? = some x := ⟨_, List.getElem?_eq_getElem (by rw [HG.out.2.1]; exact hkl)⟩
      obtain ⟨r, X⟩ := x
      have hIA : IA wr a l := HG.out.1.below HB.out
      obtain ⟨gi, o, ha, hgi, z0, z1, z2, z3, z4⟩ := hIA.cell hx
      subst ha
      have HXX : Hid (l[k]? = some (r, X)) := Lib.hid hx
      dsimp only at z0 z1 z2 z3 z4
      have hd : Hid (Below w.heap.size w (wr.alloc (.cells #[.bool r, .int .u64 (Cs.wd X 0), .int .u64 (Cs.wd X 1), .int .u64 (Cs.wd X 2), .int .u64 (Cs.wd X 3)] 69)) ∧ IB (wr.alloc (.cells #[.bool r, .int .u64 (Cs.wd X 0), .int .u64 (Cs.wd X 1), .int .u64 (Cs.wd X 2), .int .u64 (Cs.wd X 3)] 69)) wr.heap.size r X) := Lib.hid ⟨HB.out.alloc HB.out.size _, IB.new wr r X⟩
      clear hx hIA HB
      go_upto_region 5 with fail
      clear z0 z1 z2 z3 z4
      revert hd
      generalize wr.alloc (.cells #[.bool r, .int .u64 (Cs.wd X 0), .int .u64 (Cs.wd X 1), .int .u64 (Cs.wd X 2), .int .u64 (Cs.wd X 3)] 69) = V
      generalize wr.heap.size = D
      intro hd
      have yb := Blk.cell hd.out.2 (i := 0) rfl
      have y0 := Blk.cell hd.out.2 (i := 1) rfl
      have y1 := Blk.cell hd.out.2 (i := 2) rfl
      have y2 := Blk.cell hd.out.2 (i := 3) rfl
      have y3 := Blk.cell hd.out.2 (i := 4) rfl
      cases r with
      | true =>
        have HK2 : Hid (Lg.least (l.take (k + 1)) = j) := Lib.hid (by rw [least_take HXX.out, HK.out]; rfl)
        go_wp2
        refine ⟨?_, ?measure⟩
        case measure => simp [intOf]; omega
        first
          | exact ⟨k + 1, j, by go_num, rfl, by omega, by omega, HK2, Lib.hid hd.out.1⟩
          | ((repeat apply Exists.intro); exact ⟨⟨k + 1, j, by go_num, rfl, by omega, by omega, HK2, Lib.hid hd.out.1⟩, rfl⟩)
      | false =>
        have HK2 : Hid (Lg.least (l.take (k + 1)) = j + 1) := Lib.hid (by rw [least_take HXX.out, HK.out]; rfl)
        go_wp2
        refine ⟨?_, ?measure⟩
        case measure => simp [intOf]; omega
        first
          | exact ⟨k + 1, j + 1, by go_num, by go_num, by omega, by omega, HK2, Lib.hid hd.out.1⟩
          | ((repeat apply Exists.intro); exact ⟨⟨k + 1, j + 1, by go_num, by go_num, by omega, by omega, HK2, Lib.hid hd.out.1⟩, rfl⟩)
    · obtain rfl : k = n := by omega
      have e : j = m := by rw [← HK.out, ← HG.out.2.2, List.take_of_length_le (by rw [HG.out.2.1]; omega)]
      subst e
      go_wp2
      go_ret
      exact ⟨rfl, HB.out⟩
theorem lg_empty (l : List (Bool × BitVec 256)) (m : Nat) (hm : Lg.least l = m) (n : Nat) (a : Option Addr) (c : Nat) (hn : l.length = n) (hn6 : n ≤ 1000000) (w : World) (hI : IA w a l) :
    Calls Try.prog 37 #[.slice a n c] w fun e w' => e = .returned (.bool (decide (m = 0))) ∧ Below w.heap.size w w' := by
  have HG := Lib.hid (And.intro hI (And.intro hn hm))
  clear hI hn hm
  cases hz : decide (m = 0) with
  | true =>
    have hm0 : ((m : Int) == 0) = true := by rw [beq_iff_eq]; have := of_decide_eq_true hz; omega
    clear hz
    go_enter Try.func37, Try.ntmps37
    go_wp2_with (go_at_call 42; refine (lg_least l m HG.out.2.2 n a c HG.out.2.1 hn6 _ HG.out.1).mono ?_; rintro e W ⟨rfl, hb⟩; have HB := Lib.hid hb; clear hb)
    go_ret
    exact ⟨rfl, HB.out⟩
  | false =>
    have hm0 : ((m : Int) == 0) = false := by rw [beq_eq_false_iff_ne]; have := of_decide_eq_false hz; omega
    clear hz
    go_enter Try.func37, Try.ntmps37
    go_wp2_with (go_at_call 42; refine (lg_least l m HG.out.2.2 n a c HG.out.2.1 hn6 _ HG.out.1).mono ?_; rintro e W ⟨rfl, hb⟩; have HB := Lib.hid hb; clear hb)
    go_ret
    exact ⟨rfl, HB.out⟩
theorem void_at {l : List (Bool × BitVec 256)} {k : Nat} {r : Bool} {X : BitVec 256} (h : l[k]? = some (r, X)) (hb : (!r && decide (X = 0)) = true) : Lg.void l = true := by
  unfold Lg.void
  rw [List.any_eq_true]
  exact ⟨(r, X), List.mem_of_getElem? h, hb⟩
theorem void_take {l : List (Bool × BitVec 256)} {k : Nat} {r : Bool} {X : BitVec 256} (h : l[k]? = some (r, X)) (h0 : Lg.void (l.take k) = false) (hb : (!r && decide (X = 0)) = false) : Lg.void (l.take (k + 1)) = false := by
  unfold Lg.void at h0 ⊢
  rw [List.take_add_one, h, List.any_append, h0]
  simpa using hb
end Go.Proofs.Ytoniipmgkoogbaa
/- Patterns: one turned. -/
namespace Go.Proofs.Ytoniipmgkoogbaa
open Go.ChangeShapes Go.WideShapes Go.ChangeAt Go.RowKit
set_option linter.unusedSimpArgs false
set_option linter.unusedVariables false

open Go.Shelf
/-- An item's cells. -/
def encI (x : Bool × BitVec 256) : List Value := [.bool x.1, .int .u64 (Cs.wd x.2 0), .int .u64 (Cs.wd x.2 1), .int .u64 (Cs.wd x.2 2), .int .u64 (Cs.wd x.2 3)]
theorem encI_one (x : Bool × BitVec 256) : ∀ v ∈ encI x, v.oneCell' = true := by
  intro v hv
  simp [encI] at hv
  rcases hv with rfl | rfl | rfl | rfl | rfl <;> rfl
theorem its_one : ∀ (l : List (Bool × BitVec 256)), ∀ v ∈ its l, v.oneCell' = true
  | [], v, h => by simp [its] at h
  | x :: l, v, h => by
    simp only [its, List.mem_cons] at h
    rcases h with rfl | rfl | rfl | rfl | rfl | h
    · rfl
    · rfl
    · rfl
    · rfl
    · rfl
    · exact its_one l v h
theorem its_flat (l : List (Bool × BitVec 256)) (j : Nat) (hj : j < l.length * 5) : (its l)[j]? = some ((encI l.toArray[j / 5]!)[j % 5]!) := by
  have h5 : j / 5 < l.length := by omega
  obtain ⟨x, hx⟩ : ∃ x, l[j / 5]? = some x := ⟨_, List.getElem?_eq_getElem h5⟩
  have hx2 : l.toArray[j / 5]! = x := by
    rw [List.getElem?_eq_getElem h5] at hx
    have := Option.some.inj hx
    rw [getElem!_pos _ _ (by simpa using h5), ← this]; simp
  obtain ⟨a, b, c, d, e⟩ := its_at l _ x hx
  rw [hx2]
  obtain ⟨m, hm⟩ : ∃ m, j % 5 = m := ⟨_, rfl⟩
  obtain ⟨q, hq⟩ : ∃ q, j / 5 = q := ⟨_, rfl⟩
  have hj2 : j = q * 5 + m := by omega
  rw [hq] at a b c d e
  rw [hm, hj2]
  have : m < 5 := by omega
  match m, this with
  | 0, _ => exact a
  | 1, _ => exact b
  | 2, _ => exact c
  | 3, _ => exact d
  | 4, _ => exact e
/-- Items that came as a list does: at a place, or none. -/
def IJ (w : World) (a : Option Addr) (l : List (Bool × BitVec 256)) : Prop := IA w a l ∧ (a = none ∨ ∃ g o, a = some ⟨g, o, none⟩)
theorem IJ.below {w w' : World} {a : Option Addr} {l : List (Bool × BitVec 256)} (h : IJ w a l) (k : Below w.heap.size w w') : IJ w' a l := ⟨h.1.below k, h.2⟩
end Go.Proofs.Ytoniipmgkoogbaa
