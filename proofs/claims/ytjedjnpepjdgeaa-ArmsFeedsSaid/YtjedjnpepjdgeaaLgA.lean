/- Several texts in one. -/
import Derived.Test.YtjedjnpepjdgeaaGl
import Derived.Test.YtjedjnpepjdgeaaGlB
import Derived.Test.YtjedjnpepjdgeaaRw
import Derived.Shelf.SlicesQ.Reverse
import Derived.Shelf.SlicesE.Clone
import Derived.Lib.OwnBridge
/- Patterns: what they match. -/
namespace Go.Proofs.Ytjedjnpepjdgeaa
set_option linter.unusedSimpArgs false
set_option linter.unusedVariables false

abbrev LgL := Nat → Bool × BitVec 256
abbrev LgT := Nat → UInt8
def Lg.fits (x : Bool × BitVec 256) (c : UInt8) : Bool := x.2.getLsbD c.toNat
/-- The first k items match the bytes from i to n. -/
def Lg.D (L : LgL) (T : LgT) (i : Nat) : Nat → Nat → Bool
  | 0, n => n == i
  | k + 1, n => if (L k).1 then (List.range (n + 1)).any (Lg.D L T i k) else (decide (0 < n) && (Lg.D L T i k (n - 1) && Lg.fits (L k) (T (n - 1))))
theorem lgD_zero (L : LgL) (T : LgT) (i n : Nat) : Lg.D L T i 0 n = (n == i) := by rw [Lg.D]
theorem lgD_run {L : LgL} {k : Nat} (h : (L k).1 = true) (T : LgT) (i n : Nat) : Lg.D L T i (k + 1) n = (List.range (n + 1)).any (Lg.D L T i k) := by rw [Lg.D, if_pos h]
theorem lgD_one0 {L : LgL} {k : Nat} (h : (L k).1 = false) (T : LgT) (i : Nat) : Lg.D L T i (k + 1) 0 = false := by rw [Lg.D, if_neg (by rw [h]; simp)]; rfl
theorem lgD_one {L : LgL} {k : Nat} (h : (L k).1 = false) (T : LgT) (i n : Nat) : Lg.D L T i (k + 1) (n + 1) = (Lg.D L T i k n && Lg.fits (L k) (T n)) := by rw [Lg.D, if_neg (by rw [h]; simp)]; simp
theorem lgD_run0 {L : LgL} {k : Nat} (h : (L k).1 = true) (T : LgT) (i : Nat) : Lg.D L T i (k + 1) 0 = Lg.D L T i k 0 := by rw [lgD_run h]; simp
theorem lgD_runS {L : LgL} {k : Nat} (h : (L k).1 = true) (T : LgT) (i n : Nat) : Lg.D L T i (k + 1) (n + 1) = (Lg.D L T i (k + 1) n || Lg.D L T i k (n + 1)) := by
  rw [lgD_run h, lgD_run h, List.range_succ (n := n + 1), List.any_append]; simp
/-- Nothing matches backwards. -/
theorem lgD_lt (L : LgL) (T : LgT) (i : Nat) : ∀ k n, n < i → Lg.D L T i k n = false
  | 0, n, h => by rw [lgD_zero, beq_eq_false_iff_ne]; omega
  | k + 1, n, h => by
    cases hr : (L k).1 with
    | true =>
      rw [lgD_run hr, List.any_eq_false]
      intro j hj
      rw [lgD_lt L T i k j (by have := List.mem_range.1 hj; omega)]; simp
    | false =>
      cases n with
      | zero => exact lgD_one0 hr T i
      | succ n => rw [lgD_one hr, lgD_lt L T i k n (by omega)]; rfl
/-- As the list goes: where a run comes next, it counts with it. -/
def Lg.E (L : LgL) (len : Nat) (T : LgT) (i k n : Nat) : Bool := if decide (k < len) && (L k).1 then Lg.D L T i (k + 1) n else Lg.D L T i k n
/-- Runs may be no bytes. -/
def Lg.P (L : LgL) (f : Nat → Bool) : Nat → Bool
  | 0 => f 0
  | k + 1 => f (k + 1) || (Lg.P L f k && (L k).1)
def Lg.nx (L : LgL) (len : Nat) (g : Nat → Bool) (c : UInt8) (anew : Bool) : Nat → Bool
  | 0 => anew || (decide (0 < len) && (L 0).1 && g 0)
  | k + 1 => (decide (k + 1 < len) && (L (k + 1)).1 && g (k + 1)) || (!(L k).1 && Lg.fits (L k) c && g k)
def Lg.S (L : LgL) (len : Nat) (T : LgT) (anew : Bool) : Nat → Nat → Bool
  | 0 => Lg.P L (fun k => k == 0)
  | n + 1 => Lg.P L (Lg.nx L len (Lg.S L len T anew n) (T n) anew)
theorem lgE_len (L : LgL) (len : Nat) (T : LgT) (i n : Nat) : Lg.E L len T i len n = Lg.D L T i len n := by
  unfold Lg.E; rw [if_neg (by simp)]
theorem lgP_base (L : LgL) (T : LgT) (i : Nat) : ∀ k, Lg.P L (fun k => k == 0) k = Lg.D L T i k i
  | 0 => by rw [lgD_zero, Lg.P]; simp
  | k + 1 => by
    rw [Lg.P, lgP_base L T i k]
    cases hr : (L k).1 with
    | true =>
      rw [lgD_run hr, List.range_succ, List.any_append]
      have : (List.range i).any (Lg.D L T i k) = false := by
        rw [List.any_eq_false]
        intro j hj
        rw [lgD_lt L T i k j (List.mem_range.1 hj)]; simp
      rw [this]; simp
    | false =>
      cases i with
      | zero => rw [lgD_one0 hr]; simp
      | succ i => rw [lgD_one hr, lgD_lt L T _ k i (by omega)]; simp
theorem lgE_base (L : LgL) (len : Nat) (T : LgT) (i k : Nat) : Lg.E L len T i k i = Lg.D L T i k i := by
  unfold Lg.E
  by_cases h : (decide (k < len) && (L k).1) = true
  · rw [if_pos h]
    have hr : (L k).1 = true := by simp at h; exact h.2
    rw [← lgP_base L T i (k + 1), ← lgP_base L T i k, Lg.P, hr]; simp
  · rw [if_neg h]
theorem lgP_or (L : LgL) (f g : Nat → Bool) : ∀ k, Lg.P L (fun j => f j || g j) k = (Lg.P L f k || Lg.P L g k)
  | 0 => rfl
  | k + 1 => by rw [Lg.P, lgP_or L f g k, Lg.P, Lg.P]; cases f (k+1) <;> cases g (k+1) <;> cases Lg.P L f k <;> cases Lg.P L g k <;> simp
theorem lgP_congr (L : LgL) (f g : Nat → Bool) : ∀ k, (∀ j ≤ k, f j = g j) → Lg.P L f k = Lg.P L g k
  | 0, h => h 0 (Nat.le_refl _)
  | k + 1, h => by rw [Lg.P, Lg.P, lgP_congr L f g k (fun j hj => h j (by omega)), h (k + 1) (Nat.le_refl _)]
/-- A byte more. -/
theorem lgE_step (L : LgL) (len : Nat) (T : LgT) (i n : Nat) (hi : i ≤ n) : ∀ k ≤ len, Lg.P L (Lg.nx L len (fun k => Lg.E L len T i k n) (T n) false) k = Lg.E L len T i k (n + 1)
  | 0, hk => by
    rw [Lg.P, Lg.nx]
    unfold Lg.E
    by_cases h : (decide (0 < len) && (L 0).1) = true
    · rw [if_pos h, if_pos h, h]
      have hr : (L 0).1 = true := by simp at h; exact h.2
      rw [lgD_runS hr, lgD_zero]
      have : (n + 1 == i) = false := by rw [beq_eq_false_iff_ne]; omega
      rw [this]; simp
    · rw [if_neg h, if_neg h, Bool.eq_false_iff.2 h, lgD_zero, lgD_zero]
      have : (n + 1 == i) = false := by rw [beq_eq_false_iff_ne]; omega
      rw [this]; simp
  | k + 1, hk => by
    rw [Lg.P, lgE_step L len T i n hi k (by omega), Lg.nx]
    have h0 : decide (k < len) = true := by simp; omega
    cases hr : (L k).1 with
    | true =>
      have e1 : Lg.E L len T i k (n + 1) = Lg.D L T i (k + 1) (n + 1) := by unfold Lg.E; rw [if_pos (by rw [h0, hr]; rfl)]
      rw [e1]
      unfold Lg.E
      by_cases h : (decide (k + 1 < len) && (L (k + 1)).1) = true
      · rw [if_pos h, if_pos h, h]
        have hr2 : (L (k + 1)).1 = true := by simp at h; exact h.2
        rw [lgD_runS hr2]; simp
      · rw [if_neg h, Bool.eq_false_iff.2 h]; simp
    | false =>
      have e1 : Lg.E L len T i k n = Lg.D L T i k n := by unfold Lg.E; rw [if_neg (by rw [hr]; simp)]
      rw [e1]
      have e2 : (Lg.fits (L k) (T n) && Lg.D L T i k n) = Lg.D L T i (k + 1) (n + 1) := by rw [lgD_one hr, Bool.and_comm]
      unfold Lg.E
      by_cases h : (decide (k + 1 < len) && (L (k + 1)).1) = true
      · rw [if_pos h, if_pos h, h]
        have hr2 : (L (k + 1)).1 = true := by simp at h; exact h.2
        rw [lgD_runS hr2, ← e2]; simp
      · rw [if_neg h, Bool.eq_false_iff.2 h, ← e2]; simp
/-- All that holds behind n bytes, begun at the start alone. -/
theorem lgS_one (L : LgL) (len : Nat) (T : LgT) : ∀ n k, k ≤ len → Lg.S L len T false n k = Lg.E L len T 0 k n
  | 0, k, hk => by rw [Lg.S, lgP_base L T 0 k, lgE_base]
  | n + 1, k, hk => by
    rw [Lg.S, ← lgE_step L len T 0 n (by omega) k hk]
    refine lgP_congr L _ _ k fun j hj => ?_
    cases j with
    | zero => rw [Lg.nx, Lg.nx, lgS_one L len T n 0 (by omega)]
    | succ j => rw [Lg.nx, Lg.nx, lgS_one L len T n (j + 1) (by omega), lgS_one L len T n j (by omega)]
theorem lgnx_any (L : LgL) (len : Nat) (l : List Nat) (g : Nat → Nat → Bool) (c : UInt8) (j : Nat) : Lg.nx L len (fun k => l.any fun i => g i k) c true j = ((j == 0) || l.any fun i => Lg.nx L len (g i) c false j) := by
  induction l with
  | nil => cases j <;> simp [Lg.nx]
  | cons x l ih =>
    cases j with
    | zero => simp [Lg.nx]
    | succ j =>
      simp only [Lg.nx, List.any_cons] at ih ⊢
      have h0 : ((j + 1 == 0) : Bool) = false := by simp
      rw [h0, Bool.false_or] at ih ⊢
      rw [← ih]
      cases (decide (j + 1 < len) && (L (j + 1)).1) <;> cases ((!(L j).1) && Lg.fits (L j) c) <;> cases g x (j + 1) <;> cases g x j <;> simp
theorem lgP_any (L : LgL) (l : List Nat) (f : Nat → Nat → Bool) (k : Nat) : Lg.P L (fun j => l.any fun i => f i j) k = l.any fun i => Lg.P L (f i) k := by
  induction l with
  | nil => simp only [List.any_nil]; induction k with
    | zero => rfl
    | succ k ih => rw [Lg.P, ih]; rfl
  | cons x l ih => simp only [List.any_cons]; rw [lgP_or, ih]
theorem any_congr_mem {l : List Nat} {f g : Nat → Bool} (h : ∀ i ∈ l, f i = g i) : l.any f = l.any g := by
  induction l with
  | nil => rfl
  | cons x l ih => rw [List.any_cons, List.any_cons, h x (by simp), ih (fun i hi => h i (by simp [hi]))]
/-- All that holds behind n bytes, begun anew at each of them. -/
theorem lgS_any (L : LgL) (len : Nat) (T : LgT) : ∀ n k, k ≤ len → Lg.S L len T true n k = (List.range (n + 1)).any fun i => Lg.E L len T i k n
  | 0, k, hk => by rw [Lg.S, lgP_base L T 0 k]; simp [lgE_base]
  | n + 1, k, hk => by
    rw [Lg.S, List.range_succ, List.any_append]
    have e : Lg.P L (Lg.nx L len (Lg.S L len T true n) (T n) true) k = Lg.P L (fun j => (j == 0) || (List.range (n + 1)).any fun i => Lg.nx L len (fun k => Lg.E L len T i k n) (T n) false j) k := by
      refine lgP_congr L _ _ k fun j hj => ?_
      rw [← lgnx_any]
      cases j with
      | zero => rw [Lg.nx, Lg.nx, lgS_any L len T n 0 (by omega)]
      | succ j => rw [Lg.nx, Lg.nx, lgS_any L len T n (j + 1) (by omega), lgS_any L len T n j (by omega)]
    rw [e, lgP_or, lgP_any, lgP_base L T (n + 1) k, Bool.or_comm]
    congr 1
    · exact any_congr_mem fun i hi => lgE_step L len T i n (by have := List.mem_range.1 hi; omega) k hk
    · simp [lgE_base]
end Go.Proofs.Ytjedjnpepjdgeaa
/- Patterns: a walk through a text. -/
namespace Go.Proofs.Ytjedjnpepjdgeaa
open Go.ChangeShapes Go.WideShapes Go.ChangeAt Go.RowKit
set_option linter.unusedSimpArgs false
set_option linter.unusedVariables false

/-- The list as a function. -/
def lgL (l : List (Bool × BitVec 256)) : LgL := fun k => (l[k]?).getD (false, 0)
theorem blg_congr {f h : Nat → Bool} {n : Nat} (hh : ∀ j, j < n → f j = h j) : bl f n = bl h n := by
  unfold bl
  exact List.map_congr_left fun j hj => by rw [hh j (List.mem_range.1 hj)]
theorem blg_set (f h : Nat → Bool) (n i : Nat) (b : Bool) (hh : ∀ j, j < n → h j = if j = i then b else f j) : (bl f n).set i (.bool b) = bl h n := by
  apply List.ext_getElem?
  intro j
  rw [List.getElem?_set]
  by_cases hj : j < n
  · rw [bl_at h hj, hh j hj]
    by_cases e : i = j
    · subst e; simp [bl_length, hj]
    · have e2 : ¬ j = i := fun x => e x.symm
      rw [if_neg e, bl_at f hj, if_neg e2]
  · rw [List.getElem?_eq_none (by rw [bl_length]; omega)]
    by_cases e : i = j
    · subst e; simp [bl_length, hj]
    · rw [if_neg e, List.getElem?_eq_none (by rw [bl_length]; omega)]
theorem bl_rep (n : Nat) : List.replicate n (.bool false) = bl (fun _ => false) n := by
  unfold bl; apply List.ext_getElem? ; intro i; by_cases h : i < n <;> simp [h]
/-- A walk through a text: what it goes by, and its two rows. -/
def WK (w : World) (x g h n : Nat) (a : Option Addr) (c : Nat) (f f2 : Nat → Bool) : Prop :=
  Blk w x [.slice a n c, .slice (some ⟨g, 0, none⟩) (n + 1) (n + 1), .slice (some ⟨h, 0, none⟩) (n + 1) (n + 1)] 105 ∧ Blk w g (bl f (n + 1)) 4 ∧ Blk w h (bl f2 (n + 1)) 4 ∧ x ≠ g ∧ x ≠ h ∧ g ≠ h
/-- A walk that began behind w0. -/
def WS (w0 w : World) (x g h n : Nat) (a : Option Addr) (c : Nat) (f f2 : Nat → Bool) : Prop :=
  WK w x g h n a c f f2 ∧ Below w0.heap.size w0 w ∧ w0.heap.size ≤ x ∧ w0.heap.size ≤ g ∧ w0.heap.size ≤ h
theorem WS.alloc {w0 w : World} {x g h n : Nat} {a : Option Addr} {c : Nat} {f f2 : Nat → Bool} (k : WS w0 w x g h n a c f f2) (o : Obj) : WS w0 (w.alloc o) x g h n a c f f2 :=
  ⟨⟨k.1.1.alloc o, k.1.2.1.alloc o, k.1.2.2.1.alloc o, k.1.2.2.2⟩, k.2.1.alloc k.2.1.size o, k.2.2⟩
theorem WS.below {w0 w w' : World} {x g h n : Nat} {a : Option Addr} {c : Nat} {f f2 : Nat → Bool} (k : WS w0 w x g h n a c f f2) (b : Below w.heap.size w w') : WS w0 w' x g h n a c f f2 :=
  ⟨⟨k.1.1.below b k.1.1.lt, k.1.2.1.below b k.1.2.1.lt, k.1.2.2.1.below b k.1.2.2.1.lt, k.1.2.2.2⟩, k.2.1.trans (b.mono k.2.1.size), k.2.2⟩
theorem WS.congr {w0 w : World} {x g h n : Nat} {a : Option Addr} {c : Nat} {f f2 f' f2' : Nat → Bool} (k : WS w0 w x g h n a c f f2) (e : ∀ j, j < n + 1 → f j = f' j) (e2 : ∀ j, j < n + 1 → f2 j = f2' j) : WS w0 w x g h n a c f' f2' := by
  refine ⟨⟨k.1.1, ?_, ?_, k.1.2.2.2⟩, k.2⟩
  · rw [← blg_congr e]; exact k.1.2.1
  · rw [← blg_congr e2]; exact k.1.2.2.1
theorem WS.setg {w0 w : World} {x g h n : Nat} {a : Option Addr} {c : Nat} {f f2 f' : Nat → Bool} (k : WS w0 w x g h n a c f f2) (i : Nat) (b : Bool) (e : ∀ j, j < n + 1 → f' j = if j = i then b else f j) : WS w0 (w.setCell ⟨g, i, none⟩ (.bool b)) x g h n a c f' f2 := by
  obtain ⟨⟨k1, k2, k3, k4, k5, k6⟩, k7, k8, k9, k10⟩ := k
  refine ⟨⟨k1.other k4 _ _, ?_, k3.other (Ne.symm k6) _ _, k4, k5, k6⟩, Chg.onto k7 (Chg.set (Chg.refl [g] w) (Or.inl (by simp)) i _) k7.size (by simpa using k9), k8, k9, k10⟩
  have := k2.set i (.bool b)
  rwa [blg_set f f' (n + 1) i b e] at this
theorem WS.seth {w0 w : World} {x g h n : Nat} {a : Option Addr} {c : Nat} {f f2 f' : Nat → Bool} (k : WS w0 w x g h n a c f f2) (i : Nat) (b : Bool) (e : ∀ j, j < n + 1 → f' j = if j = i then b else f2 j) : WS w0 (w.setCell ⟨h, i, none⟩ (.bool b)) x g h n a c f f' := by
  obtain ⟨⟨k1, k2, k3, k4, k5, k6⟩, k7, k8, k9, k10⟩ := k
  refine ⟨⟨k1.other k5 _ _, k2.other k6 _ _, ?_, k4, k5, k6⟩, Chg.onto k7 (Chg.set (Chg.refl [h] w) (Or.inl (by simp)) i _) k7.size (by simpa using k10), k8, k9, k10⟩
  have := k3.set i (.bool b)
  rwa [blg_set f2 f' (n + 1) i b e] at this
/-- pass, so far. -/
def Lg.Q (L : LgL) (f : Nat → Bool) (k j : Nat) : Bool := if j ≤ k then Lg.P L f j else f j
theorem lgQ_zero (L : LgL) (f : Nat → Bool) (j : Nat) : Lg.Q L f 0 j = f j := by
  unfold Lg.Q
  by_cases e : j ≤ 0
  · rw [if_pos e]; obtain rfl : j = 0 := by omega
    rfl
  · rw [if_neg e]
theorem lgQ_here (L : LgL) (f : Nat → Bool) (k : Nat) : Lg.Q L f k k = Lg.P L f k := by unfold Lg.Q; rw [if_pos (Nat.le_refl _)]
theorem lgQ_no {L : LgL} {f : Nat → Bool} {k : Nat} (h : (Lg.P L f k && (L k).1) = false) (j : Nat) : Lg.Q L f k j = Lg.Q L f (k + 1) j := by
  unfold Lg.Q
  by_cases e : j = k + 1
  · subst e
    rw [if_neg (by omega), if_pos (Nat.le_refl _), Lg.P, h, Bool.or_false]
  · by_cases e2 : j ≤ k
    · rw [if_pos e2, if_pos (by omega)]
    · rw [if_neg e2, if_neg (by omega)]
theorem lgQ_yes {L : LgL} {f : Nat → Bool} {k : Nat} (h : (Lg.P L f k && (L k).1) = true) (j : Nat) : Lg.Q L f (k + 1) j = if j = k + 1 then true else Lg.Q L f k j := by
  unfold Lg.Q
  by_cases e : j = k + 1
  · subst e
    rw [if_pos rfl, if_pos (Nat.le_refl _), Lg.P, h, Bool.or_true]
  · rw [if_neg e]
    by_cases e2 : j ≤ k
    · rw [if_pos e2, if_pos (by omega)]
    · rw [if_neg e2, if_neg (by omega)]
set_option maxRecDepth 20000 in
set_option maxHeartbeats 4000000 in
theorem lg_pass (l : List (Bool × BitVec 256)) (w0 w : World) (x g h n : Nat) (a : Option Addr) (c : Nat) (f f2 : Nat → Bool) (hn : l.length = n) (hn6 : n ≤ 1000000) (hI : IA w0 a l) (hW : WS w0 w x g h n a c f f2) :
    Calls Try.prog 75 #[.pointer (some ⟨x, 0, none⟩)] w fun e w' => e = .returned (.tuple #[]) ∧ WS w0 w' x g h n a c (Lg.P (lgL l) f) f2 ∧ Chg [x, g, h] w w' := by
  have HG := Lib.hid (And.intro hI (And.intro hn hW))
  have x0 := hW.1.1.cell (i := 0) rfl
  clear hI hn hW
  go_enter Try.func75, Try.ntmps75
  go_wp2
  go_loopw [9] (fun i wr => ∃ k : Nat, i = .int .i64 k ∧ k ≤ n ∧ Hid (WS w0 wr x g h n a c (Lg.Q (lgL l) f k) f2 ∧ Chg [x, g, h] w wr)) (fun i _ => n - (intOf i).toNat)
  case atStart => exact ⟨0, rfl, by omega, Lib.hid ⟨HG.out.2.2.congr (fun j hj => (lgQ_zero (lgL l) f j).symm) (fun _ _ => rfl), Chg.refl _ _⟩⟩
  case round =>
    clear x0
    obtain ⟨k, rfl, hk, HB⟩ := hrel
    have j0 : (0 : Int) ≤ (k : Int) := by omega
    by_cases hkl : k < n
    · obtain ⟨b, hb⟩ : ∃ b, Lg.P (lgL l) f k = b := ⟨_, rfl⟩
      have HP := Lib.hid hb
      clear hb
      obtain ⟨x, hx⟩ : ∃ x, l[k]? = some x := ⟨_, List.getElem?_eq_getElem (by rw [HG.out.2.1]; exact hkl)⟩
      obtain ⟨r, X⟩ := x
      have hIA : IA wr a l := HG.out.1.below HB.out.1.2.1
      obtain ⟨gi, o, ha, hgi, z0, z1, z2, z3, z4⟩ := hIA.cell hx
      subst ha
      have HXX : Hid (lgL l k = (r, X)) := Lib.hid (by unfold lgL; rw [hx]; rfl)
      dsimp only at z0 z1 z2 z3 z4
      have hd : Hid (WS w0 (wr.alloc (.cells #[.bool r, .int .u64 (Cs.wd X 0), .int .u64 (Cs.wd X 1), .int .u64 (Cs.wd X 2), .int .u64 (Cs.wd X 3)] 41)) x g h n (some ⟨gi, o, none⟩) c (Lg.Q (lgL l) f k) f2 ∧ Chg [x, g, h] w (wr.alloc (.cells #[.bool r, .int .u64 (Cs.wd X 0), .int .u64 (Cs.wd X 1), .int .u64 (Cs.wd X 2), .int .u64 (Cs.wd X 3)] 41)) ∧ IB (wr.alloc (.cells #[.bool r, .int .u64 (Cs.wd X 0), .int .u64 (Cs.wd X 1), .int .u64 (Cs.wd X 2), .int .u64 (Cs.wd X 3)] 41)) wr.heap.size r X) := Lib.hid ⟨HB.out.1.alloc _, HB.out.2.alloc _, IB.new wr r X⟩
      clear hx hIA HB
      go_upto_region 3 with fail
      clear z0 z1 z2 z3 z4
      revert hd
      generalize wr.alloc (.cells #[.bool r, .int .u64 (Cs.wd X 0), .int .u64 (Cs.wd X 1), .int .u64 (Cs.wd X 2), .int .u64 (Cs.wd X 3)] 41) = V
      generalize wr.heap.size = D
      intro hd
      have x1 := hd.out.1.1.1.cell (i := 1) rfl
      have xg := hd.out.1.1.2.1.cell (bl_at (Lg.Q (lgL l) f k) (i := k) (by omega))
      rw [lgQ_here, HP.out] at xg
      have yb := Blk.cell hd.out.2.2 (i := 0) rfl
      have w1 : IntKind.i64.wrap ((k : Int) + 1) = (k : Int) + 1 := IntWalk.i64_in _ (by omega)
      cases b with
      | false =>
        have HN : Hid (WS w0 V x g h n (some ⟨gi, o, none⟩) c (Lg.Q (lgL l) f (k + 1)) f2 ∧ Chg [x, g, h] w V) := Lib.hid ⟨hd.out.1.congr (fun j _ => lgQ_no (by rw [HP.out]; rfl) j) (fun _ _ => rfl), hd.out.2.1⟩
        go_wp2
        refine ⟨?_, ?measure⟩
        case measure => simp [intOf]; omega
        first
          | exact ⟨k + 1, by go_num, by omega, HN⟩
          | ((repeat apply Exists.intro); exact ⟨⟨k + 1, by go_num, by omega, HN⟩, rfl⟩)
      | true =>
        cases r with
        | false =>
          have HN : Hid (WS w0 V x g h n (some ⟨gi, o, none⟩) c (Lg.Q (lgL l) f (k + 1)) f2 ∧ Chg [x, g, h] w V) := Lib.hid ⟨hd.out.1.congr (fun j _ => lgQ_no (by rw [HXX.out]; simp) j) (fun _ _ => rfl), hd.out.2.1⟩
          go_wp2
          refine ⟨?_, ?measure⟩
          case measure => simp [intOf]; omega
          first
            | exact ⟨k + 1, by go_num, by omega, HN⟩
            | ((repeat apply Exists.intro); exact ⟨⟨k + 1, by go_num, by omega, HN⟩, rfl⟩)
        | true =>
          have HN : Hid (WS w0 (V.setCell ⟨g, k + 1, none⟩ (.bool true)) x g h n (some ⟨gi, o, none⟩) c (Lg.Q (lgL l) f (k + 1)) f2 ∧ Chg [x, g, h] w (V.setCell ⟨g, k + 1, none⟩ (.bool true))) := Lib.hid ⟨hd.out.1.setg (k + 1) true (fun j _ => lgQ_yes (by rw [HP.out, HXX.out]; rfl) j), hd.out.2.1.set (Or.inl (by simp)) _ _⟩
          have xf := hd.out.1.1.2.1.free (k + 1)
          have xg2 := hd.out.1.1.2.1.cell (bl_at (Lg.Q (lgL l) f k) (i := k + 1) (by omega))
          go_wp2
          refine ⟨?_, ?measure⟩
          case measure => simp [intOf]; omega
          first
            | exact ⟨k + 1, by go_num, by omega, HN⟩
            | ((repeat apply Exists.intro); exact ⟨⟨k + 1, by go_num, by omega, HN⟩, rfl⟩)
    · obtain rfl : k = n := by omega
      go_wp2
      go_end0
      exact ⟨rfl, HB.out.1.congr (fun j hj => by unfold Lg.Q; rw [if_pos (by omega)]) (fun _ _ => rfl), HB.out.2⟩
end Go.Proofs.Ytjedjnpepjdgeaa
/- Patterns: a byte goes by. -/
namespace Go.Proofs.Ytjedjnpepjdgeaa
open Go.ChangeShapes Go.WideShapes Go.ChangeAt Go.RowKit
set_option linter.unusedSimpArgs false
set_option linter.unusedVariables false

/-- A byte went by the first k items. -/
def Lg.N (L : LgL) (k : Nat) (g : Nat → Bool) (c : UInt8) (anew : Bool) : Nat → Bool
  | 0 => anew || (decide (0 < k) && (L 0).1 && g 0)
  | j + 1 => (decide (j + 1 < k) && (L (j + 1)).1 && g (j + 1)) || (decide (j < k) && (!(L j).1 && Lg.fits (L j) c && g j))
theorem lgN_step (L : LgL) (k : Nat) (g : Nat → Bool) (c : UInt8) (anew : Bool) (j : Nat) : Lg.N L (k + 1) g c anew j = (Lg.N L k g c anew j || (decide (j = k) && (L k).1 && g k) || (decide (j = k + 1) && (!(L k).1 && Lg.fits (L k) c && g k))) := by
  cases j with
  | zero =>
    by_cases e : k = 0
    · subst e; simp [Lg.N]
    · have e1 : 0 < k := by omega
      have e2 : ¬ 0 = k := by omega
      simp [Lg.N, e1, e2]
  | succ j =>
    by_cases a1 : j + 1 < k
    · have a2 : j + 1 < k + 1 := by omega
      have a3 : j < k + 1 := by omega
      have a4 : j < k := by omega
      have a5 : ¬ j + 1 = k := by omega
      have a6 : ¬ j + 1 = k + 1 := by omega
      have a7 : ¬ j = k := by omega
      simp [Lg.N, a1, a2, a3, a4, a5, a6, a7]
    · by_cases e : j + 1 = k
      · subst e
        have a2 : j < j + 1 + 1 := by omega
        simp [Lg.N, a2, Bool.or_comm]
      · by_cases e2 : j = k
        · subst e2
          have a2 : ¬ j + 1 < j := by omega
          simp [Lg.N, a2]
        · have a2 : ¬ j + 1 < k + 1 := by omega
          have a3 : ¬ j < k + 1 := by omega
          have a4 : ¬ j < k := by omega
          have a6 : ¬ j + 1 = k + 1 := by omega
          simp [Lg.N, a1, a2, a3, a4, e, e2, a6]
theorem lgN_zero (L : LgL) (g : Nat → Bool) (c : UInt8) (anew : Bool) (j : Nat) : Lg.N L 0 g c anew j = if j = 0 then anew else false := by
  cases j <;> simp [Lg.N]
theorem lgN_all (L : LgL) (n : Nat) (g : Nat → Bool) (c : UInt8) (anew : Bool) (j : Nat) (hj : j < n + 1) : Lg.N L n g c anew j = Lg.nx L n g c anew j := by
  cases j with
  | zero => rfl
  | succ j =>
    have : j < n := by omega
    simp [Lg.N, Lg.nx, this]
theorem lgN_no {L : LgL} {k : Nat} {g : Nat → Bool} {c : UInt8} (h : g k = false) (anew : Bool) (j : Nat) : Lg.N L k g c anew j = Lg.N L (k + 1) g c anew j := by
  rw [lgN_step, h]; simp
theorem lgN_un {L : LgL} {k : Nat} {g : Nat → Bool} {c : UInt8} (h : (L k).1 = false) (h2 : Lg.fits (L k) c = false) (anew : Bool) (j : Nat) : Lg.N L k g c anew j = Lg.N L (k + 1) g c anew j := by
  rw [lgN_step, h, h2]; simp
theorem lgN_run {L : LgL} {k : Nat} {g : Nat → Bool} {c : UInt8} (h : g k = true) (h2 : (L k).1 = true) (anew : Bool) (j : Nat) : Lg.N L (k + 1) g c anew j = if j = k then true else Lg.N L k g c anew j := by
  rw [lgN_step, h, h2]; by_cases e : j = k <;> simp [e]
theorem lgN_fit {L : LgL} {k : Nat} {g : Nat → Bool} {c : UInt8} (h : g k = true) (h2 : (L k).1 = false) (h3 : Lg.fits (L k) c = true) (anew : Bool) (j : Nat) : Lg.N L (k + 1) g c anew j = if j = k + 1 then true else Lg.N L k g c anew j := by
  rw [lgN_step, h, h2, h3]; by_cases e : j = k + 1 <;> simp [e]
theorem WS.clear {w0 w : World} {x g h n : Nat} {a : Option Addr} {c : Nat} {f f2 : Nat → Bool} (k : WS w0 w x g h n a c f f2) : WS w0 (w.setCells h 0 (List.replicate (n + 1) (.bool false))) x g h n a c f (fun _ => false) ∧ Chg [x, g, h] w (w.setCells h 0 (List.replicate (n + 1) (.bool false))) := by
  obtain ⟨⟨k1, k2, k3, k4, k5, k6⟩, k7, k8, k9, k10⟩ := k
  obtain ⟨r1, r2⟩ := rw_cells (List.replicate (n + 1) (.bool false)) 0 k3 (by simp [bl_length])
  have e : (bl f2 (n + 1)).take 0 ++ List.replicate (n + 1) (.bool false) ++ (bl f2 (n + 1)).drop (0 + (List.replicate (n + 1) (Value.bool false)).length) = bl (fun _ => false) (n + 1) := by
    rw [List.drop_eq_nil_of_le (by simp [bl_length]), List.append_nil, List.take_zero, List.nil_append, bl_rep]
  rw [e] at r1
  exact ⟨⟨⟨k1.chg r2 (by simpa using k5), k2.chg r2 (by simpa using k6), r1, k4, k5, k6⟩, Chg.onto k7 r2 k7.size (by simpa using k10), k8, k9, k10⟩, r2.mono (by simp)⟩
theorem WS.swap {w0 w : World} {x g h n : Nat} {a : Option Addr} {c : Nat} {f f2 : Nat → Bool} (k : WS w0 w x g h n a c f f2) : WS w0 ((w.setCell ⟨x, 1, none⟩ (.slice (some ⟨h, 0, none⟩) (n + 1) (n + 1))).setCell ⟨x, 2, none⟩ (.slice (some ⟨g, 0, none⟩) (n + 1) (n + 1))) x h g n a c f2 f ∧ Chg [x, g, h] w ((w.setCell ⟨x, 1, none⟩ (.slice (some ⟨h, 0, none⟩) (n + 1) (n + 1))).setCell ⟨x, 2, none⟩ (.slice (some ⟨g, 0, none⟩) (n + 1) (n + 1))) := by
  obtain ⟨⟨k1, k2, k3, k4, k5, k6⟩, k7, k8, k9, k10⟩ := k
  have r2 : Chg [x] w ((w.setCell ⟨x, 1, none⟩ (.slice (some ⟨h, 0, none⟩) (n + 1) (n + 1))).setCell ⟨x, 2, none⟩ (.slice (some ⟨g, 0, none⟩) (n + 1) (n + 1))) := ((Chg.refl _ _).set (Or.inl (by simp)) _ _).set (Or.inl (by simp)) _ _
  exact ⟨⟨⟨(k1.set 1 _).set 2 _, k3.chg r2 (by simpa using k5.symm), k2.chg r2 (by simpa using k4.symm), k5, k4, k6.symm⟩, Chg.onto k7 r2 k7.size (by simpa using k8), k8, k10, k9⟩, r2.mono (by simp)⟩
theorem WS.drew {w0 w : World} {x g h n : Nat} {a : Option Addr} {c : Nat} {f f2 : Nat → Bool} (k : WS w0 w x g h n a c f f2) : WS w0 w.drew x g h n a c f f2 :=
  ⟨⟨k.1.1.drew, k.1.2.1.drew, k.1.2.2.1.drew, k.1.2.2.2⟩, k.2.1.drew, k.2.2⟩
theorem zeroBool (w : World) : (zeroValue 4).run Try.prog w = .ok (.bool false) w := by kernel_rfl
set_option maxRecDepth 20000 in
set_option maxHeartbeats 4000000 in
theorem lg_step (l : List (Bool × BitVec 256)) (b : UInt8) (an : Bool) (w0 w : World) (x g h n : Nat) (a : Option Addr) (c : Nat) (f f2 : Nat → Bool) (hn : l.length = n) (hn6 : n ≤ 1000000) (hI : IA w0 a l) (hW : WS w0 w x g h n a c f f2) :
    Calls Try.prog 60 #[.pointer (some ⟨x, 0, none⟩), .int .u8 b.toNat, .bool an] w fun e w' => e = .returned (.tuple #[]) ∧ WS w0 w' x h g n a c (Lg.P (lgL l) (Lg.nx (lgL l) n f b an)) f ∧ Chg [x, g, h] w w' := by
  have HG := Lib.hid (And.intro hI (And.intro hn hW))
  have x2 := hW.1.1.cell (i := 2) rfl
  have hcl : ∀ ty, (Builtin.clear_ #[82] ty #[.slice (some ⟨h, 0, none⟩) (n + 1) (n + 1)]).run Try.prog w = .ok (.tuple #[]) (w.setCells h 0 (List.replicate (n + 1) (.bool false))) := fun ty =>
    Lib.run_clear_slice w _ 4 ty (.bool false) Try.underlying82 zeroBool rfl rfl h 0 (n + 1) (n + 1) (by omega) (fun j hj => by rw [Nat.zero_add, hW.1.2.2.1.cell (bl_at f2 hj)]; rfl) (fun j hj => by rw [Nat.zero_add]; exact hW.1.2.2.1.free j)
  have hC : Hid (WS w0 (w.setCells h 0 (List.replicate (n + 1) (.bool false))) x g h n a c f (fun _ => false) ∧ Chg [x, g, h] w (w.setCells h 0 (List.replicate (n + 1) (.bool false)))) := Lib.hid hW.clear
  clear hI hn hW
  go_enter Try.func60, Try.ntmps60
  go_upto_region 1 with fail
  revert hC
  generalize w.setCells h 0 (List.replicate (n + 1) (.bool false)) = W1
  intro hC
  clear x2 hcl
  have x2 := hC.out.1.1.1.cell (i := 2) rfl
  have x0 := hC.out.1.1.1.cell (i := 0) rfl
  have h0 := hC.out.1.1.2.2.1.cell (bl_at (fun _ => false) (n := n + 1) (i := 0) (by omega))
  have hf := hC.out.1.1.2.2.1.free 0
  have hD : Hid (WS w0 (W1.setCell ⟨h, 0, none⟩ (.bool an)) x g h n a c f (Lg.N (lgL l) 0 f b an) ∧ Chg [x, g, h] w (W1.setCell ⟨h, 0, none⟩ (.bool an))) := Lib.hid ⟨(hC.out.1.seth 0 an (fun j _ => lgN_zero (lgL l) f b an j)), hC.out.2.set (Or.inl (by simp)) _ _⟩
  go_upto_region 2 with fail
  revert hD
  generalize W1.setCell ⟨h, 0, none⟩ (.bool an) = W2
  intro hD
  clear hC x2 x0 h0 hf
  have x0 := hD.out.1.1.1.cell (i := 0) rfl
  go_wp2_with fail
  go_loopw [23] (fun i wr => ∃ k : Nat, i = .int .i64 k ∧ k ≤ n ∧ Hid (WS w0 wr x g h n a c f (Lg.N (lgL l) k f b an) ∧ Chg [x, g, h] w wr)) (fun i _ => n - (intOf i).toNat)
  case atStart => exact ⟨0, rfl, by omega, hD⟩
  case round =>
    clear x0 hD
    obtain ⟨k, rfl, hk, HB⟩ := hrel
    have j0 : (0 : Int) ≤ (k : Int) := by omega
    by_cases hkl : k < n
    · obtain ⟨q, hq⟩ : ∃ q, f k = q := ⟨_, rfl⟩
      have HP := Lib.hid hq
      clear hq
      obtain ⟨x, hx⟩ : ∃ x, l[k]? = some x := ⟨_, List.getElem?_eq_getElem (by rw [HG.out.2.1]; exact hkl)⟩
      obtain ⟨r, X⟩ := x
      have hIA : IA wr a l := HG.out.1.below HB.out.1.2.1
      obtain ⟨gi, o, ha, hgi, z0, z1, z2, z3, z4⟩ := hIA.cell hx
      subst ha
      have HXX : Hid (lgL l k = (r, X)) := Lib.hid (by unfold lgL; rw [hx]; rfl)
      dsimp only at z0 z1 z2 z3 z4
      have hd : Hid (WS w0 (wr.alloc (.cells #[.bool r, .int .u64 (Cs.wd X 0), .int .u64 (Cs.wd X 1), .int .u64 (Cs.wd X 2), .int .u64 (Cs.wd X 3)] 41)) x g h n (some ⟨gi, o, none⟩) c f (Lg.N (lgL l) k f b an) ∧ Chg [x, g, h] w (wr.alloc (.cells #[.bool r, .int .u64 (Cs.wd X 0), .int .u64 (Cs.wd X 1), .int .u64 (Cs.wd X 2), .int .u64 (Cs.wd X 3)] 41)) ∧ IB (wr.alloc (.cells #[.bool r, .int .u64 (Cs.wd X 0), .int .u64 (Cs.wd X 1), .int .u64 (Cs.wd X 2), .int .u64 (Cs.wd X 3)] 41)) wr.heap.size r X) := Lib.hid ⟨HB.out.1.alloc _, HB.out.2.alloc _, IB.new wr r X⟩
      clear hx hIA HB
      go_upto_region 5 with fail
      clear z0 z1 z2 z3 z4
      revert hd
      generalize wr.alloc (.cells #[.bool r, .int .u64 (Cs.wd X 0), .int .u64 (Cs.wd X 1), .int .u64 (Cs.wd X 2), .int .u64 (Cs.wd X 3)] 41) = V
      generalize wr.heap.size = D
      intro hd
      have x1 := hd.out.1.1.1.cell (i := 1) rfl
      have x2 := hd.out.1.1.1.cell (i := 2) rfl
      have xg := hd.out.1.1.2.1.cell (bl_at f (n := n + 1) (i := k) (by omega))
      rw [HP.out] at xg
      have yb := Blk.cell hd.out.2.2 (i := 0) rfl
      have y0 := Blk.cell hd.out.2.2 (i := 1) rfl
      have y1 := Blk.cell hd.out.2.2 (i := 2) rfl
      have y2 := Blk.cell hd.out.2.2 (i := 3) rfl
      have y3 := Blk.cell hd.out.2.2 (i := 4) rfl
      have w1 : IntKind.i64.wrap ((k : Int) + 1) = (k : Int) + 1 := IntWalk.i64_in _ (by omega)
      cases q with
      | false =>
        have HN : Hid (WS w0 V x g h n (some ⟨gi, o, none⟩) c f (Lg.N (lgL l) (k + 1) f b an) ∧ Chg [x, g, h] w V) := Lib.hid ⟨hd.out.1.congr (fun _ _ => rfl) (fun j _ => lgN_no HP.out an j), hd.out.2.1⟩
        go_wp2
        refine ⟨?_, ?measure⟩
        case measure => simp [intOf]; omega
        first
          | exact ⟨k + 1, by go_num, by omega, HN⟩
          | ((repeat apply Exists.intro); exact ⟨⟨k + 1, by go_num, by omega, HN⟩, rfl⟩)
      | true =>
        cases r with
        | true =>
          have HN : Hid (WS w0 (V.setCell ⟨h, k, none⟩ (.bool true)) x g h n (some ⟨gi, o, none⟩) c f (Lg.N (lgL l) (k + 1) f b an) ∧ Chg [x, g, h] w (V.setCell ⟨h, k, none⟩ (.bool true))) := Lib.hid ⟨hd.out.1.seth k true (fun j _ => lgN_run HP.out (by rw [HXX.out]) an j), hd.out.2.1.set (Or.inl (by simp)) _ _⟩
          have xf := hd.out.1.1.2.2.1.free k
          have xh := hd.out.1.1.2.2.1.cell (bl_at (Lg.N (lgL l) k f b an) (n := n + 1) (i := k) (by omega))
          go_wp2
          refine ⟨?_, ?measure⟩
          case measure => simp [intOf]; omega
          first
            | exact ⟨k + 1, by go_num, by omega, HN⟩
            | ((repeat apply Exists.intro); exact ⟨⟨k + 1, by go_num, by omega, HN⟩, rfl⟩)
        | false =>
          obtain ⟨t, ht⟩ : ∃ t, X.getLsbD b.toNat = t := ⟨_, rfl⟩
          have HT : Hid (X.getLsbD b.toNat = t) := Lib.hid ht
          have hfit : Hid (Lg.fits (lgL l k) b = t) := Lib.hid (by rw [HXX.out]; exact ht)
          clear ht
          cases t with
          | false =>
            go_upto_block 2 with (go_at_call 76; refine (cs_has X b.toNat b.toNat_lt false HT.out _).mono ?_; rintro e W5 ⟨rfl, hb5⟩; have hd5 : Hid (WS w0 W5 x g h n (some ⟨gi, o, none⟩) c f (Lg.N (lgL l) k f b an) ∧ Chg [x, g, h] w W5) := Lib.hid ⟨hd.out.1.below hb5, hd.out.2.1.trans (Chg.of_fresh (l := []) hb5) (by simp)⟩; clear hb5 x1 x2 xg yb y0 y1 y2 y3; have x2 := hd5.out.1.1.1.cell (i := 2) rfl; have xf := hd5.out.1.1.2.2.1.free (k + 1); have xh := hd5.out.1.1.2.2.1.cell (bl_at (Lg.N (lgL l) k f b an) (n := n + 1) (i := k + 1) (by omega)))
            have HN : Hid (WS w0 W5 x g h n (some ⟨gi, o, none⟩) c f (Lg.N (lgL l) (k + 1) f b an) ∧ Chg [x, g, h] w W5) := Lib.hid ⟨hd5.out.1.congr (fun _ _ => rfl) (fun j _ => lgN_un (by rw [HXX.out]) hfit.out an j), hd5.out.2⟩
            go_wp2
            refine ⟨?_, ?measure⟩
            case measure => simp [intOf]; omega
            first
              | exact ⟨k + 1, by go_num, by omega, HN⟩
              | ((repeat apply Exists.intro); exact ⟨⟨k + 1, by go_num, by omega, HN⟩, rfl⟩)
          | true =>
            go_upto_region 9 with (go_at_call 76; refine (cs_has X b.toNat b.toNat_lt true HT.out _).mono ?_; rintro e W5 ⟨rfl, hb5⟩; have hd5 : Hid (WS w0 W5 x g h n (some ⟨gi, o, none⟩) c f (Lg.N (lgL l) k f b an) ∧ Chg [x, g, h] w W5) := Lib.hid ⟨hd.out.1.below hb5, hd.out.2.1.trans (Chg.of_fresh (l := []) hb5) (by simp)⟩; clear hb5 x1 x2 xg yb y0 y1 y2 y3; have x2 := hd5.out.1.1.1.cell (i := 2) rfl; have xf := hd5.out.1.1.2.2.1.free (k + 1); have xh := hd5.out.1.1.2.2.1.cell (bl_at (Lg.N (lgL l) k f b an) (n := n + 1) (i := k + 1) (by omega)))
            have HN : Hid (WS w0 (W5.setCell ⟨h, k + 1, none⟩ (.bool true)) x g h n (some ⟨gi, o, none⟩) c f (Lg.N (lgL l) (k + 1) f b an) ∧ Chg [x, g, h] w (W5.setCell ⟨h, k + 1, none⟩ (.bool true))) := Lib.hid ⟨hd5.out.1.seth (k + 1) true (fun j _ => lgN_fit HP.out (by rw [HXX.out]) hfit.out an j), hd5.out.2.set (Or.inl (by simp)) _ _⟩
            go_wp2
            refine ⟨?_, ?measure⟩
            case measure => simp [intOf]; omega
            first
              | exact ⟨k + 1, by go_num, by omega, HN⟩
              | ((repeat apply Exists.intro); exact ⟨⟨k + 1, by go_num, by omega, HN⟩, rfl⟩)
    · obtain rfl : k = n := by omega
      have hS : Hid (WS w0 wr x g h k a c f (Lg.nx (lgL l) k f b an) ∧ Chg [x, g, h] w wr) := Lib.hid ⟨HB.out.1.congr (fun _ _ => rfl) (fun j hj => lgN_all (lgL l) k f b an j hj), HB.out.2⟩
      clear HB
      have x1 := hS.out.1.1.1.cell (i := 1) rfl
      have x2 := hS.out.1.1.1.cell (i := 2) rfl
      have f1 := hS.out.1.1.1.free 1
      have f2' := hS.out.1.1.1.free 2
      go_upto_region 11 with fail
      go_region
      have hT : Hid (WS w0 ((wr.setCell ⟨x, 1, none⟩ (.slice (some ⟨h, 0, none⟩) (k + 1) (k + 1))).setCell ⟨x, 2, none⟩ (.slice (some ⟨g, 0, none⟩) (k + 1) (k + 1))).drew x h g k a c (Lg.nx (lgL l) k f b an) f ∧ Chg [x, g, h] w ((wr.setCell ⟨x, 1, none⟩ (.slice (some ⟨h, 0, none⟩) (k + 1) (k + 1))).setCell ⟨x, 2, none⟩ (.slice (some ⟨g, 0, none⟩) (k + 1) (k + 1))).drew) := Lib.hid ⟨hS.out.1.swap.1.drew, (hS.out.2.trans hS.out.1.swap.2 (fun x hx => Or.inl hx)).drew⟩
      clear x1 x2 f1 f2' hS
      revert hT
      generalize ((wr.setCell ⟨x, 1, none⟩ (.slice (some ⟨h, 0, none⟩) (k + 1) (k + 1))).setCell ⟨x, 2, none⟩ (.slice (some ⟨g, 0, none⟩) (k + 1) (k + 1))).drew = W3
      intro hT
      go_wp2_with (go_at_call 75; refine (lg_pass l w0 _ x h g k a c _ f HG.out.2.1 hn6 HG.out.1 hT.out.1).mono ?_; rintro e W4 ⟨rfl, hs4, hc4⟩; have hU : Hid (WS w0 W4 x h g k a c (Lg.P (lgL l) (Lg.nx (lgL l) k f b an)) f ∧ Chg [x, g, h] w W4) := Lib.hid ⟨hs4, hT.out.2.trans hc4 (by simp)⟩; clear hs4 hc4)
      go_end0
      exact ⟨rfl, hU.out.1, hU.out.2⟩
end Go.Proofs.Ytjedjnpepjdgeaa
/- Patterns: a walk begins; whether all items match. -/
namespace Go.Proofs.Ytjedjnpepjdgeaa
open Go.ChangeShapes Go.WideShapes Go.ChangeAt Go.RowKit
set_option linter.unusedSimpArgs false
set_option linter.unusedVariables false

theorem rep_bool2 (n : Nat) (w : World) : Blk (w.alloc (.cells (Array.replicate n (.bool false)) 4)) w.heap.size (bl (fun _ => false) n) 4 := by
  have := Blk.newA w (Array.replicate n (.bool false)) 4
  rw [Array.toList_replicate, bl_rep] at this
  exact this
theorem infoB2 : (Try.prog.info? 4).map (fun i => (i.zero, i.size, i.bytes)) = some (some (.bool false), 1, 1) := by kernel_rfl
set_option maxRecDepth 20000 in
set_option maxHeartbeats 2000000 in
theorem lg_done (w0 w : World) (x g h n : Nat) (a : Option Addr) (c : Nat) (f f2 : Nat → Bool) (b : Bool) (hb : f n = b) (hW : WS w0 w x g h n a c f f2) :
    Calls Try.prog 61 #[.pointer (some ⟨x, 0, none⟩)] w fun e w' => e = .returned (.bool b) ∧ Below w.heap.size w w' := by
  have x0 := hW.1.1.cell (i := 0) rfl
  have x1 := hW.1.1.cell (i := 1) rfl
  have xg := hW.1.2.1.cell (bl_at f (n := n + 1) (i := n) (by omega))
  rw [hb] at xg
  clear hW hb
  go_enter Try.func61, Try.ntmps61
  go_wp2
  go_region
  go_wp2
  go_ret
  exact ⟨rfl, (Below.refl _ _).drew⟩
theorem rep_bool3 (n : Nat) (w : World) : Blk (w.alloc (.cells ((Array.replicate (n + 1) (.bool false)).setIfInBounds 0 (.bool true)) 4)) w.heap.size (bl (fun k => k == 0) (n + 1)) 4 := by
  have := Blk.newA w ((Array.replicate (n + 1) (.bool false)).setIfInBounds 0 (.bool true)) 4
  rw [Array.toList_setIfInBounds, Array.toList_replicate, bl_rep, blg_set _ (fun k => k == 0) (n + 1) 0 true (fun j _ => by by_cases e : j = 0 <;> simp [e])] at this
  exact this
theorem begA (n : Nat) (a : Option Addr) (c : Nat) (w : World) : WS w (((w.alloc (.cells ((Array.replicate (n + 1) (.bool false)).setIfInBounds 0 (.bool true)) 4)).alloc (.cells (Array.replicate (n + 1) (.bool false)) 4)).alloc (.cells #[.slice a n c, .slice (some ⟨w.heap.size, 0, none⟩) (n + 1) (n + 1), .slice (some ⟨w.heap.size + 1, 0, none⟩) (n + 1) (n + 1)] 105)).drew (w.heap.size + 1 + 1) w.heap.size (w.heap.size + 1) n a c (fun k => k == 0) (fun _ => false) := by
  refine ⟨⟨?_, ?_, ?_, by omega, by omega, by omega⟩, ((((Below.refl _ _).alloc (Nat.le_refl _) _).alloc (by simp) _).alloc (by simp; omega) _).drew, by omega, by omega, by omega⟩
  · have := Blk.newA ((w.alloc (.cells ((Array.replicate (n + 1) (.bool false)).setIfInBounds 0 (.bool true)) 4)).alloc (.cells (Array.replicate (n + 1) (.bool false)) 4)) #[.slice a n c, .slice (some ⟨w.heap.size, 0, none⟩) (n + 1) (n + 1), .slice (some ⟨w.heap.size + 1, 0, none⟩) (n + 1) (n + 1)] 105
    simpa using this.drew
  · exact (((rep_bool3 n w).alloc _).alloc _).drew
  · have := rep_bool2 (n + 1) (w.alloc (.cells ((Array.replicate (n + 1) (.bool false)).setIfInBounds 0 (.bool true)) 4))
    have h := (this.alloc (.cells #[.slice a n c, .slice (some ⟨w.heap.size, 0, none⟩) (n + 1) (n + 1), .slice (some ⟨w.heap.size + 1, 0, none⟩) (n + 1) (n + 1)] 105)).drew
    simpa using h
theorem begB (n : Nat) (a : Option Addr) (c : Nat) (w : World) : WS w (((w.alloc (.cells (Array.replicate (n + 1) (.bool false)) 4)).alloc (.cells ((Array.replicate (n + 1) (.bool false)).setIfInBounds 0 (.bool true)) 4)).alloc (.cells #[.slice a n c, .slice (some ⟨w.heap.size + 1, 0, none⟩) (n + 1) (n + 1), .slice (some ⟨w.heap.size, 0, none⟩) (n + 1) (n + 1)] 105)).drew (w.heap.size + 1 + 1) (w.heap.size + 1) w.heap.size n a c (fun k => k == 0) (fun _ => false) := by
  refine ⟨⟨?_, ?_, ?_, by omega, by omega, by omega⟩, ((((Below.refl _ _).alloc (Nat.le_refl _) _).alloc (by simp) _).alloc (by simp; omega) _).drew, by omega, by omega, by omega⟩
  · have := Blk.newA ((w.alloc (.cells (Array.replicate (n + 1) (.bool false)) 4)).alloc (.cells ((Array.replicate (n + 1) (.bool false)).setIfInBounds 0 (.bool true)) 4)) #[.slice a n c, .slice (some ⟨w.heap.size + 1, 0, none⟩) (n + 1) (n + 1), .slice (some ⟨w.heap.size, 0, none⟩) (n + 1) (n + 1)] 105
    simpa using this.drew
  · have := rep_bool3 n (w.alloc (.cells (Array.replicate (n + 1) (.bool false)) 4))
    have h := (this.alloc (.cells #[.slice a n c, .slice (some ⟨w.heap.size + 1, 0, none⟩) (n + 1) (n + 1), .slice (some ⟨w.heap.size, 0, none⟩) (n + 1) (n + 1)] 105)).drew
    simpa using h
  · exact (((rep_bool2 (n + 1) w).alloc _).alloc _).drew
set_option maxRecDepth 20000 in
set_option maxHeartbeats 4000000 in
theorem lg_begin (l : List (Bool × BitVec 256)) (w : World) (n : Nat) (a : Option Addr) (c : Nat) (hn : l.length = n) (hn6 : n ≤ 1000000) (hI : IA w a l) :
    Calls Try.prog 59 #[.slice a n c] w fun e w' => ∃ x g h, e = .returned (.pointer (some ⟨x, 0, none⟩)) ∧ WS w w' x g h n a c (Lg.P (lgL l) (fun k => k == 0)) (fun _ => false) := by
  have HG := Lib.hid (And.intro hI hn)
  have w1 : IntKind.i64.wrap ((n : Int) + 1) = (n : Int) + 1 := IntWalk.i64_in _ (by omega)
  have hm : ∀ W, (Instr.makeSlice 82 (.int .i64 ((n : Int) + 1)) (.int .i64 ((n : Int) + 1))).run Try.prog W = .ok (.slice (some ⟨W.heap.size, 0, none⟩) (n + 1) (n + 1)) (W.alloc (.cells (List.replicate (n + 1) (.bool false)).toArray 4)) := fun W => by
    have h := run_make_blk W _ _ _ Try.underlying82 1 infoB2 rfl (n + 1) (n + 1) (Nat.le_refl _) (by omega) (by omega)
    rw [show (((n + 1 : Nat)) : Int) = (n : Int) + 1 from by omega] at h
    exact h
  clear hI hn
  go_enter Try.func59, Try.ntmps59
  go_wp2
  go_region
  · go_wp2_with (go_at_call 75; refine (lg_pass l w _ _ _ _ n a c _ _ HG.out.2 hn6 HG.out.1 (begA n a c w)).mono ?_; rintro e W4 ⟨rfl, hs4, hc4⟩; have hU := Lib.hid hs4; clear hs4 hc4)
    go_ret
    exact ⟨_, _, _, rfl, hU.out⟩
  · go_wp2_with (go_at_call 75; refine (lg_pass l w _ _ _ _ n a c _ _ HG.out.2 hn6 HG.out.1 (begB n a c w)).mono ?_; rintro e W4 ⟨rfl, hs4, hc4⟩; have hU := Lib.hid hs4; clear hs4 hc4)
    go_ret
    exact ⟨_, _, _, rfl, hU.out⟩
end Go.Proofs.Ytjedjnpepjdgeaa
/- Patterns: whether one matches. -/
namespace Go.Proofs.Ytjedjnpepjdgeaa
open Go.ChangeShapes Go.WideShapes Go.ChangeAt Go.RowKit
set_option linter.unusedSimpArgs false
set_option linter.unusedVariables false

/-- A text as a function. -/
def lgT (t : List UInt8) : LgT := fun n => (t[n]?).getD 0
theorem lgT_at {s : ByteArray} {t : List UInt8} (h : s.data.toList = t) {k : Nat} (hk : k < s.size) : s[k] = lgT t k := by
  unfold lgT
  rw [← h, byte_at hk]
  rfl
/-- All items match all bytes. -/
def Lg.m (l : List (Bool × BitVec 256)) (t : List UInt8) : Bool := Lg.D (lgL l) (lgT t) 0 l.length t.length
set_option maxRecDepth 20000 in
set_option maxHeartbeats 4000000 in
theorem lg_matches (l : List (Bool × BitVec 256)) (s : ByteArray) (t : List UInt8) (hs : s.size ≤ 1000000) (ht : s.data.toList = t) (b : Bool) (hb : Lg.m l t = b) (n : Nat) (a : Option Addr) (c : Nat) (hn : l.length = n) (hn6 : n ≤ 1000000) (w : World) (hI : IA w a l) :
    Calls Try.prog 19 #[.slice a n c, .string s] w fun e w' => e = .returned (.bool b) ∧ Below w.heap.size w w' := by
  obtain ⟨N, hN⟩ : ∃ N, s.size = N := ⟨_, rfl⟩
  have htl : t.length = N := by rw [← ht]; simpa using hN
  have hb2 : Lg.S (lgL l) n (lgT t) false N n = b := by rw [lgS_one _ _ _ _ _ (Nat.le_refl _), lgE_len, ← hb]; unfold Lg.m; rw [hn, htl]
  have HG := Lib.hid (And.intro hI (And.intro hn (And.intro ht hb2)))
  clear hI hn hb hb2 htl
  go_enter Try.func19, Try.ntmps19
  go_upto_region 2 with (go_at_call 59; refine (lg_begin l w n a c HG.out.2.1 hn6 HG.out.1).mono ?_; rintro e W1 ⟨x, g, h, rfl, hs1⟩; have HB := Lib.hid hs1; clear hs1)
  go_wp2_with fail
  go_loopw [11] (fun i wr => ∃ (k g h : Nat) (f2 : Nat → Bool), i = .int .i64 k ∧ k ≤ N ∧ Hid (WS w wr x g h n a c (Lg.S (lgL l) n (lgT t) false k) f2)) (fun i _ => N - (intOf i).toNat)
  case atStart => exact ⟨0, g, h, _, rfl, by omega, HB⟩
  case round =>
    clear HB
    obtain ⟨k, g, h, f2, rfl, hk, HB⟩ := hrel
    have j0 : (0 : Int) ≤ (k : Int) := by omega
    by_cases hkN : k < N
    · have hks : k < s.size := by omega
      have cb : (s[k].toNat : Int) = (lgT t k).toNat := by rw [lgT_at HG.out.2.2.1 hks]
      go_wp2_with (go_at_call 60; refine (lg_step l (lgT t k) false w _ x g h n a c _ f2 HG.out.2.1 hn6 HG.out.1 HB.out).mono ?_; rintro e W4 ⟨rfl, hs4, hc4⟩; have HN : Hid (WS w W4 x h g n a c (Lg.S (lgL l) n (lgT t) false (k + 1)) (Lg.S (lgL l) n (lgT t) false k)) := Lib.hid hs4; clear hs4 hc4)
      refine ⟨?_, ?measure⟩
      case measure => simp [intOf]; omega
      first
        | exact ⟨k + 1, h, g, _, by go_num, by omega, HN⟩
        | ((repeat apply Exists.intro); exact ⟨⟨k + 1, h, g, _, by go_num, by omega, HN⟩, rfl⟩)
    · obtain rfl : k = N := by omega
      go_wp2_with (go_at_call 61; refine (lg_done w _ x g h n a c _ f2 b HG.out.2.2.2 HB.out).mono ?_; rintro e W4 ⟨rfl, hb4⟩; replace HB := Lib.hid (HB.out.2.1.trans (hb4.mono HB.out.2.1.size)); clear hb4)
      go_ret
      exact ⟨rfl, HB.out⟩
/-- How many bytes are matched at least. -/
def Lg.least (l : List (Bool × BitVec 256)) : Nat := l.countP fun x => !x.1
/-- Whether no text is matched. -/
def Lg.void (l : List (Bool × BitVec 256)) : Bool := l.any fun x => !x.1 && decide (x.2 = 0)
theorem least_le (l : List (Bool × BitVec 256)) : Lg.least l ≤ l.length := List.countP_le_length
theorem least_take {l : List (Bool × BitVec 256)} {k : Nat} {r : Bool} {X : BitVec 256} (h : l[k]? = some (r, X)) : Lg.least (l.take (k + 1)) = Lg.least (l.take k) + if r then 0 else 1 := by
  unfold Lg.least
  rw [List.take_add_one, h, List.countP_append]
  cases r <;> simp
set_option maxRecDepth 20000 in
set_option maxHeartbeats 4000000 in
theorem lg_least (l : List (Bool × BitVec 256)) (m : Nat) (hm : Lg.least l = m) (n : Nat) (a : Option Addr) (c : Nat) (hn : l.length = n) (hn6 : n ≤ 1000000) (w : World) (hI : IA w a l) :
    Calls Try.prog 21 #[.slice a n c] w fun e w' => e = .returned (.int .i64 m) ∧ Below w.heap.size w w' := by
  have HG := Lib.hid (And.intro hI (And.intro hn hm))
  clear hI hn hm
  go_enter Try.func21, Try.ntmps21
  go_wp2
  go_loopw [3, 8] (fun q i wr => ∃ k j : Nat, i = .int .i64 k ∧ q = .int .i64 j ∧ k ≤ n ∧ j ≤ k ∧ Hid (Lg.least (l.take k) = j) ∧ Hid (Below w.heap.size w wr)) (fun _ i _ => n - (intOf i).toNat)
  case atStart => exact ⟨0, 0, rfl, rfl, by omega, by omega, Lib.hid rfl, Lib.hid (Below.refl _ _)⟩
  case round =>
    obtain ⟨k, j, rfl, rfl, hk, hjk, HK, HB⟩ := hrel
    have j0 : (0 : Int) ≤ (k : Int) := by omega
    by_cases hkl : k < n
    · have w1 : IntKind.i64.wrap ((j : Int) + 1) = (j : Int) + 1 := IntWalk.i64_in _ (by omega)
      obtain ⟨x, hx⟩ : ∃ x, l[k]? = some x := ⟨_, List.getElem?_eq_getElem (by rw [HG.out.2.1]; exact hkl)⟩
      obtain ⟨r, X⟩ := x
      have hIA : IA wr a l := HG.out.1.below HB.out
      obtain ⟨gi, o, ha, hgi, z0, z1, z2, z3, z4⟩ := hIA.cell hx
      subst ha
      have HXX : Hid (l[k]? = some (r, X)) := Lib.hid hx
      dsimp only at z0 z1 z2 z3 z4
      have hd : Hid (Below w.heap.size w (wr.alloc (.cells #[.bool r, .int .u64 (Cs.wd X 0), .int .u64 (Cs.wd X 1), .int .u64 (Cs.wd X 2), .int .u64 (Cs.wd X 3)] 41)) ∧ IB (wr.alloc (.cells #[.bool r, .int .u64 (Cs.wd X 0), .int .u64 (Cs.wd X 1), .int .u64 (Cs.wd X 2), .int .u64 (Cs.wd X 3)] 41)) wr.heap.size r X) := Lib.hid ⟨HB.out.alloc HB.out.size _, IB.new wr r X⟩
      clear hx hIA HB
      go_upto_region 5 with fail
      clear z0 z1 z2 z3 z4
      revert hd
      generalize wr.alloc (.cells #[.bool r, .int .u64 (Cs.wd X 0), .int .u64 (Cs.wd X 1), .int .u64 (Cs.wd X 2), .int .u64 (Cs.wd X 3)] 41) = V
      generalize wr.heap.size = D
      intro hd
      have yb := Blk.cell hd.out.2 (i := 0) rfl
      have y0 := Blk.cell hd.out.2 (i := 1) rfl
      have y1 := Blk.cell hd.out.2 (i := 2) rfl
      have y2 := Blk.cell hd.out.2 (i := 3) rfl
      have y3 := Blk.cell hd.out.2 (i := 4) rfl
      cases r with
      | true =>
        have HK2 : Hid (Lg.least (l.take (k + 1)) = j) := Lib.hid (by rw [least_take HXX.out, HK.out]; rfl)
        go_wp2
        refine ⟨?_, ?measure⟩
        case measure => simp [intOf]; omega
        first
          | exact ⟨k + 1, j, by go_num, rfl, by omega, by omega, HK2, Lib.hid hd.out.1⟩
          | ((repeat apply Exists.intro); exact ⟨⟨k + 1, j, by go_num, rfl, by omega, by omega, HK2, Lib.hid hd.out.1⟩, rfl⟩)
      | false =>
        have HK2 : Hid (Lg.least (l.take (k + 1)) = j + 1) := Lib.hid (by rw [least_take HXX.out, HK.out]; rfl)
        go_wp2
        refine ⟨?_, ?measure⟩
        case measure => simp [intOf]; omega
        first
          | exact ⟨k + 1, j + 1, by go_num, by go_num, by omega, by omega, HK2, Lib.hid hd.out.1⟩
          | ((repeat apply Exists.intro); exact ⟨⟨k + 1, j + 1, by go_num, by go_num, by omega, by omega, HK2, Lib.hid hd.out.1⟩, rfl⟩)
    · obtain rfl : k = n := by omega
      have e : j = m := by rw [← HK.out, ← HG.out.2.2, List.take_of_length_le (by rw [HG.out.2.1]; omega)]
      subst e
      go_wp2
      go_ret
      exact ⟨rfl, HB.out⟩
theorem lg_empty (l : List (Bool × BitVec 256)) (m : Nat) (hm : Lg.least l = m) (n : Nat) (a : Option Addr) (c : Nat) (hn : l.length = n) (hn6 : n ≤ 1000000) (w : World) (hI : IA w a l) :
    Calls Try.prog 25 #[.slice a n c] w fun e w' => e = .returned (.bool (decide (m = 0))) ∧ Below w.heap.size w w' := by
  have HG := Lib.hid (And.intro hI (And.intro hn hm))
  clear hI hn hm
  cases hz : decide (m = 0) with
  | true =>
    have hm0 : ((m : Int) == 0) = true := by rw [beq_iff_eq]; have := of_decide_eq_true hz; omega
    clear hz
    go_enter Try.func25, Try.ntmps25
    go_wp2_with (go_at_call 21; refine (lg_least l m HG.out.2.2 n a c HG.out.2.1 hn6 _ HG.out.1).mono ?_; rintro e W ⟨rfl, hb⟩; have HB := Lib.hid hb; clear hb)
    go_ret
    exact ⟨rfl, HB.out⟩
  | false =>
    have hm0 : ((m : Int) == 0) = false := by rw [beq_eq_false_iff_ne]; have := of_decide_eq_false hz; omega
    clear hz
    go_enter Try.func25, Try.ntmps25
    go_wp2_with (go_at_call 21; refine (lg_least l m HG.out.2.2 n a c HG.out.2.1 hn6 _ HG.out.1).mono ?_; rintro e W ⟨rfl, hb⟩; have HB := Lib.hid hb; clear hb)
    go_ret
    exact ⟨rfl, HB.out⟩
theorem void_at {l : List (Bool × BitVec 256)} {k : Nat} {r : Bool} {X : BitVec 256} (h : l[k]? = some (r, X)) (hb : (!r && decide (X = 0)) = true) : Lg.void l = true := by
  unfold Lg.void
  rw [List.any_eq_true]
  exact ⟨(r, X), List.mem_of_getElem? h, hb⟩
theorem void_take {l : List (Bool × BitVec 256)} {k : Nat} {r : Bool} {X : BitVec 256} (h : l[k]? = some (r, X)) (h0 : Lg.void (l.take k) = false) (hb : (!r && decide (X = 0)) = false) : Lg.void (l.take (k + 1)) = false := by
  unfold Lg.void at h0 ⊢
  rw [List.take_add_one, h, List.any_append, h0]
  simpa using hb
set_option maxRecDepth 20000 in
set_option maxHeartbeats 4000000 in
theorem lg_void (l : List (Bool × BitVec 256)) (b : Bool) (hb : Lg.void l = b) (n : Nat) (a : Option Addr) (c : Nat) (hn : l.length = n) (hn6 : n ≤ 1000000) (w : World) (hI : IA w a l) :
    Calls Try.prog 23 #[.slice a n c] w fun e w' => e = .returned (.bool b) ∧ Below w.heap.size w w' := by
  have HG := Lib.hid (And.intro hI (And.intro hn hb))
  clear hI hn hb
  have eqz := eqIn_zero
  go_enter Try.func23, Try.ntmps23
  go_wp2
  go_loopw [7] (fun i wr => ∃ k : Nat, i = .int .i64 k ∧ k ≤ n ∧ Hid (Lg.void (l.take k) = false) ∧ Hid (Below w.heap.size w wr)) (fun i _ => n - (intOf i).toNat)
  case atStart => exact ⟨0, rfl, by omega, Lib.hid rfl, Lib.hid (Below.refl _ _)⟩
  case round =>
    obtain ⟨k, rfl, hk, HK, HB⟩ := hrel
    have j0 : (0 : Int) ≤ (k : Int) := by omega
    by_cases hkl : k < n
    · skip
      obtain ⟨x, hx⟩ : ∃ x, l[k]? = some x := ⟨_, List.getElem?_eq_getElem (by rw [HG.out.2.1]; exact hkl)⟩
      obtain ⟨r, X⟩ := x
      have hIA : IA wr a l := HG.out.1.below HB.out
      obtain ⟨gi, o, ha, hgi, z0, z1, z2, z3, z4⟩ := hIA.cell hx
      subst ha
      have HXX : Hid (l[k]? = some (r, X)) := Lib.hid hx
      dsimp only at z0 z1 z2 z3 z4
      have hd : Hid (Below w.heap.size w (wr.alloc (.cells #[.bool r, .int .u64 (Cs.wd X 0), .int .u64 (Cs.wd X 1), .int .u64 (Cs.wd X 2), .int .u64 (Cs.wd X 3)] 41)) ∧ IB (wr.alloc (.cells #[.bool r, .int .u64 (Cs.wd X 0), .int .u64 (Cs.wd X 1), .int .u64 (Cs.wd X 2), .int .u64 (Cs.wd X 3)] 41)) wr.heap.size r X) := Lib.hid ⟨HB.out.alloc HB.out.size _, IB.new wr r X⟩
      clear hx hIA HB
      go_upto_region 4 with fail
      clear z0 z1 z2 z3 z4
      revert hd
      generalize wr.alloc (.cells #[.bool r, .int .u64 (Cs.wd X 0), .int .u64 (Cs.wd X 1), .int .u64 (Cs.wd X 2), .int .u64 (Cs.wd X 3)] 41) = V
      generalize wr.heap.size = D
      intro hd
      have yb := Blk.cell hd.out.2 (i := 0) rfl
      have y0 := Blk.cell hd.out.2 (i := 1) rfl
      have y1 := Blk.cell hd.out.2 (i := 2) rfl
      have y2 := Blk.cell hd.out.2 (i := 3) rfl
      have y3 := Blk.cell hd.out.2 (i := 4) rfl
      cases r with
      | true =>
        have HK2 : Hid (Lg.void (l.take (k + 1)) = false) := Lib.hid (void_take HXX.out HK.out rfl)
        go_wp2
        refine ⟨?_, ?measure⟩
        case measure => simp [intOf]; omega
        first
          | exact ⟨k + 1, by go_num, by omega, HK2, Lib.hid hd.out.1⟩
          | ((repeat apply Exists.intro); exact ⟨⟨k + 1, by go_num, by omega, HK2, Lib.hid hd.out.1⟩, rfl⟩)
      | false =>
        by_cases hX : X = 0
        · have hv : b = true := by rw [← HG.out.2.2]; exact void_at HXX.out (by rw [hX]; rfl)
          have eq0 : decide (X = 0) = true := decide_eq_true hX
          have eqx : ∀ w, (Op.equalIn 10000 39 (.agg #[.int .u64 (Cs.wd X 0), .int .u64 (Cs.wd X 1), .int .u64 (Cs.wd X 2), .int .u64 (Cs.wd X 3)]) (.agg #[.int .u64 0, .int .u64 0, .int .u64 0, .int .u64 0])).run Try.prog w = .ok true w := fun w => by rw [eqz X w, eq0]
          clear eqz eq0 hX
          subst hv
          go_wp2
          go_ret
          exact ⟨rfl, hd.out.1⟩
        · have HK2 : Hid (Lg.void (l.take (k + 1)) = false) := Lib.hid (void_take HXX.out HK.out (by rw [decide_eq_false hX]; rfl))
          have eq0 : decide (X = 0) = false := decide_eq_false hX
          have eqx : ∀ w, (Op.equalIn 10000 39 (.agg #[.int .u64 (Cs.wd X 0), .int .u64 (Cs.wd X 1), .int .u64 (Cs.wd X 2), .int .u64 (Cs.wd X 3)]) (.agg #[.int .u64 0, .int .u64 0, .int .u64 0, .int .u64 0])).run Try.prog w = .ok false w := fun w => by rw [eqz X w, eq0]
          clear eqz eq0 hX
          go_wp2
          refine ⟨?_, ?measure⟩
          case measure => simp [intOf]; omega
          first
            | exact ⟨k + 1, by go_num, by omega, HK2, Lib.hid hd.out.1⟩
            | ((repeat apply Exists.intro); exact ⟨⟨k + 1, by go_num, by omega, HK2, Lib.hid hd.out.1⟩, rfl⟩)
    · obtain rfl : k = n := by omega
      have hv : b = false := by rw [← HG.out.2.2, ← HK.out, List.take_of_length_le (by rw [HG.out.2.1]; omega)]
      subst hv
      go_wp2
      go_ret
      exact ⟨rfl, HB.out⟩
end Go.Proofs.Ytjedjnpepjdgeaa
/- Patterns: one turned. -/
namespace Go.Proofs.Ytjedjnpepjdgeaa
open Go.ChangeShapes Go.WideShapes Go.ChangeAt Go.RowKit
set_option linter.unusedSimpArgs false
set_option linter.unusedVariables false

open Go.Shelf
def revI_ren : Go.Shelf.Ren := ⟨fun | 35 => 78 | n => n, fun | 22 => 22 | 23 => 41 | 3 => 3 | 4 => 4 | 0 => 0 | n => n, fun | n => n⟩
theorem revI : Go.Proofs.SlLaysE0.n35 Try.prog revI_ren := {
  mixed := by kernel_rfl
  f35 := ⟨Try.f78.name, by decide, Try.func78.trans (congrArg some (by kernel_rfl))⟩
  t0 := Try.underlying0
  a0 := Try.isAgg0
  z0 := Try.sizeOf0
  v0 := Try.zeroValue0
  t3 := Try.underlying3
  a3 := Try.isAgg3
  z3 := Try.sizeOf3
  v3 := Try.zeroValue3
  t4 := Try.underlying4
  a4 := Try.isAgg4
  z4 := Try.sizeOf4
  v4 := Try.zeroValue4
  t22 := Try.underlying22
  a22 := Try.isAgg22
  z22 := Try.sizeOf22
  v22 := Try.zeroValue22 }
def cloneI_ren : Go.Shelf.Ren := ⟨fun | 41 => 77 | n => n, fun | 22 => 22 | 23 => 41 | 3 => 3 | 4 => 4 | 0 => 0 | n => n, fun | n => n⟩
theorem cloneI : Go.Proofs.SlLaysE0.n41 Try.prog cloneI_ren := {
  mixed := by kernel_rfl
  f41 := ⟨Try.f77.name, by decide, Try.func77.trans (congrArg some (by kernel_rfl))⟩
  t4 := Try.underlying4
  a4 := Try.isAgg4
  z4 := Try.sizeOf4
  v4 := Try.zeroValue4
  t22 := Try.underlying22
  a22 := Try.isAgg22
  z22 := Try.sizeOf22
  v22 := Try.zeroValue22 }
/-- An item's cells. -/
def encI (x : Bool × BitVec 256) : List Value := [.bool x.1, .int .u64 (Cs.wd x.2 0), .int .u64 (Cs.wd x.2 1), .int .u64 (Cs.wd x.2 2), .int .u64 (Cs.wd x.2 3)]
theorem encI_one (x : Bool × BitVec 256) : ∀ v ∈ encI x, v.oneCell' = true := by
  intro v hv
  simp [encI] at hv
  rcases hv with rfl | rfl | rfl | rfl | rfl <;> rfl
theorem its_one : ∀ (l : List (Bool × BitVec 256)), ∀ v ∈ its l, v.oneCell' = true
  | [], v, h => by simp [its] at h
  | x :: l, v, h => by
    simp only [its, List.mem_cons] at h
    rcases h with rfl | rfl | rfl | rfl | rfl | h
    · rfl
    · rfl
    · rfl
    · rfl
    · rfl
    · exact its_one l v h
theorem its_flat (l : List (Bool × BitVec 256)) (j : Nat) (hj : j < l.length * 5) : (its l)[j]? = some ((encI l.toArray[j / 5]!)[j % 5]!) := by
  have h5 : j / 5 < l.length := by omega
  obtain ⟨x, hx⟩ : ∃ x, l[j / 5]? = some x := ⟨_, List.getElem?_eq_getElem h5⟩
  have hx2 : l.toArray[j / 5]! = x := by
    rw [List.getElem?_eq_getElem h5] at hx
    have := Option.some.inj hx
    rw [getElem!_pos _ _ (by simpa using h5), ← this]; simp
  obtain ⟨a, b, c, d, e⟩ := its_at l _ x hx
  rw [hx2]
  obtain ⟨m, hm⟩ : ∃ m, j % 5 = m := ⟨_, rfl⟩
  obtain ⟨q, hq⟩ : ∃ q, j / 5 = q := ⟨_, rfl⟩
  have hj2 : j = q * 5 + m := by omega
  rw [hq] at a b c d e
  rw [hm, hj2]
  have : m < 5 := by omega
  match m, this with
  | 0, _ => exact a
  | 1, _ => exact b
  | 2, _ => exact c
  | 3, _ => exact d
  | 4, _ => exact e
open Go.Sort in
theorem rev_items (l : List (Bool × BitVec 256)) (n g c : Nat) (hn : l.length = n) (hn6 : n ≤ 1000000) (w0 w : World) (cs : List Value) (hb : Blk w g cs 41) (hcs : cs.take (n * 5) = its l) (hB : Below w0.heap.size w0 w) (hg : w0.heap.size ≤ g) :
    Calls Try.prog 78 #[.slice (some ⟨g, 0, none⟩) n c] w fun e w' => e = .returned (.tuple #[]) ∧ IA w' (some ⟨g, 0, none⟩) l.reverse ∧ Below w0.heap.size w0 w' := by
  have hH : HoldsK encI 5 w g 0 l.toArray := by
    unfold HoldsK Holds
    intro j hj
    have hj5 : j < l.length * 5 := by simpa using hj
    rw [Nat.zero_add]
    refine ⟨?_, hb.free j⟩
    have e := its_flat l j hj5
    rw [← hcs, List.getElem?_take, if_pos (by omega)] at e
    rw [hb.cell e, get_flatK _ _ _ _ (by simpa using hj5)]
    rfl
  subst hn
  have hc := AnyQ.slices_Reverse revI 5 Try.isAgg41 Try.sizeOf41 encI (fun _ => rfl) encI_one g 0 c l.toArray w hH (by simp; omega)
  refine Calls.mono (hc : Calls Try.prog 78 _ _ _) ?_
  rintro e w' ⟨rfl, q, rfl⟩
  refine ⟨rfl, ?_, Go.Lib.below_putRow hB hg⟩
  rcases l.eq_nil_or_concat with h0 | h0
  · left; rw [h0]; rfl
  · right
    have hH2 := holdsK_putRowK (enc := encI) (k := 5) (Go.Sort.ahead w q) g 0 l.toArray l.toArray.reverse hH (by simp)
    have hlt := hb.lt
    refine ⟨g, 0, rfl, by simpa [putRowK, Go.Sort.ahead] using hlt, fun i v hv => ?_⟩
    have hi : i < l.reverse.length * 5 := by
      have := (List.getElem?_eq_some_iff.1 hv).1
      rw [its_length] at this; omega
    have e := its_flat l.reverse i hi
    rw [e] at hv
    have hv2 := Option.some.inj hv
    rw [← hv2]
    have := (hH2 i (by simpa using hi)).1
    rw [get_flatK _ _ _ _ (by simpa using hi)] at this
    simpa using this
set_option maxRecDepth 20000 in
theorem clone_items (l : List (Bool × BitVec 256)) (n g o c : Nat) (hn : l.length = n) (hn6 : n ≤ 1000000) (w : World) (hI : IA w (some ⟨g, o, none⟩) l) :
    Calls Try.prog 77 #[.slice (some ⟨g, o, none⟩) n c] w fun e w' => ∃ g' c' cs, e = .returned (.slice (some ⟨g', 0, none⟩) n c') ∧ Blk w' g' cs 41 ∧ cs.take (n * 5) = its l ∧ w.heap.size ≤ g' ∧ Below w.heap.size w w' := by
  obtain ⟨i0, hi, hz0, hz1, hz2⟩ := info_split infoI
  have hcell : ∀ j u, (its l)[j]? = some u → w.cell? ⟨g, o + j, none⟩ = some u := by
    intro j u hj
    rcases hI with h | ⟨g', o', h1, h2, h3⟩
    · rw [h] at hj; simp [its] at hj
    · have e := Option.some.inj h1
      injection e with e1 e2 e3
      rw [e1, e2]; exact h3 j u hj
  have hc := AnyE.slices_Clone cloneI i0 _ 5 40 hi hz0 hz1 hz2 rfl (by decide) Try.sizeOf41 g o n c (its l) w (by rw [its_length]; omega) (by unfold maxLen; omega) (by omega) hcell (its_one l)
  refine Calls.mono (hc : Calls Try.prog 77 _ _ _) ?_
  rintro e w' ⟨v', rfl, h1, h2, h3⟩
  rcases h1.2 with ⟨k1, k2⟩ | ⟨g', cap, cur, k1, k2, k3, k4, k5, k6, k7⟩
  · exact absurd k1 h2
  · exact ⟨g', cap, cur.toList, by rw [k1], by unfold Blk; exact k3, k7, k2, h3⟩
/-- Items that came as a list does: at a place, or none. -/
def IJ (w : World) (a : Option Addr) (l : List (Bool × BitVec 256)) : Prop := IA w a l ∧ (a = none ∨ ∃ g o, a = some ⟨g, o, none⟩)
theorem IJ.below {w w' : World} {a : Option Addr} {l : List (Bool × BitVec 256)} (h : IJ w a l) (k : Below w.heap.size w w') : IJ w' a l := ⟨h.1.below k, h.2⟩
set_option maxRecDepth 20000 in
set_option maxHeartbeats 2000000 in
theorem lg_turned (l : List (Bool × BitVec 256)) (n : Nat) (a : Option Addr) (c : Nat) (hn : l.length = n) (hn6 : n ≤ 1000000) (w : World) (hI : IJ w a l) :
    Calls Try.prog 63 #[.slice a n c] w fun e w' => ∃ a' c', e = .returned (.slice a' n c') ∧ IA w' a' l.reverse ∧ Below w.heap.size w w' := by
  rcases hI.2 with rfl | ⟨g, o, rfl⟩
  · have hl : l = [] := by
      rcases hI.1 with h | ⟨g, o, h1, _⟩
      · exact h
      · cases h1
    subst hl
    have hn0 : n = 0 := by rw [← hn]; rfl
    clear hn hI
    subst hn0
    go_enter Try.func63, Try.ntmps63
    go_wp2_with (first
      | (go_at_call 77; refine Calls.mono (AnyE.slices_Clone_nil cloneI 0 c w : Calls Try.prog 77 _ _ _) ?_; rintro e W ⟨rfl, rfl⟩)
      | (go_at_call 78; refine Calls.mono (AnyQ.slices_Reverse_empty revI none 0 _ : Calls Try.prog 78 _ _ _) ?_; rintro e W ⟨rfl, rfl⟩))
    go_ret
    exact ⟨none, 0, rfl, Or.inl rfl, Below.refl _ _⟩
  · have HI := Lib.hid (And.intro hI.1 hn)
    clear hI hn
    go_enter Try.func63, Try.ntmps63
    go_wp2_with (first
      | (go_at_call 77; refine (clone_items l n g o c HI.out.2 hn6 w HI.out.1).mono ?_; rintro e W ⟨g2, c2, cs, rfl, k1, k2, k3, k4⟩; have HK := Lib.hid (And.intro k1 (And.intro k2 (And.intro k3 k4))); clear k1 k2 k3 k4)
      | (go_at_call 78; refine (rev_items l n g2 c2 HI.out.2 hn6 w _ cs HK.out.1 HK.out.2.1 HK.out.2.2.2 HK.out.2.2.1).mono ?_; rintro e W2 ⟨rfl, k1, k2⟩; have HL := Lib.hid (And.intro k1 k2); clear k1 k2))
    go_ret
    exact ⟨_, _, rfl, HL.out⟩
end Go.Proofs.Ytjedjnpepjdgeaa
