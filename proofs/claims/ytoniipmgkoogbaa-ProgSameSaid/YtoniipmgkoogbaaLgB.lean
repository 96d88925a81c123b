/- Several texts in one. -/
import Derived.Test.YtoniipmgkoogbaaLgA
import Derived.Test.YtoniipmgkoogbaaShelf
/- Patterns: forwards, backwards, behind one another. -/
namespace Go.Proofs.Ytoniipmgkoogbaa
open Go.ChangeShapes Go.WideShapes Go.ChangeAt Go.RowKit
set_option linter.unusedSimpArgs false
set_option linter.unusedVariables false

/-- One item from i tt m. -/
def Lg.one (x : Bool × BitVec 256) (T : LgT) (i m : Nat) : Bool := if x.1 then decide (i ≤ m) else decide (m = i + 1) && Lg.fits x (T i)
theorem lgone_le {x : Bool × BitVec 256} {T : LgT} {i m : Nat} (h : Lg.one x T i m = true) : i ≤ m := by
  unfold Lg.one at h
  cases hx : x.1 with
  | true => rw [hx, if_pos rfl] at h; exact of_decide_eq_true h
  | false =>
    rw [hx, if_neg (by simp), Bool.and_eq_true] at h
    have := of_decide_eq_true h.1
    omega
theorem lgD_back (L : LgL) (T : LgT) (i k n : Nat) : Lg.D L T i (k + 1) n = true ↔ ∃ m, Lg.D L T i k m = true ∧ Lg.one (L k) T m n = true := by
  unfold Lg.one
  cases hr : (L k).1 with
  | true =>
    rw [lgD_run hr, List.any_eq_true]
    constructor
    · rintro ⟨j, hj, h⟩
      exact ⟨j, h, by rw [if_pos rfl]; exact decide_eq_true (by have := List.mem_range.1 hj; omega)⟩
    · rintro ⟨j, h, hj⟩
      rw [if_pos rfl] at hj
      exact ⟨j, List.mem_range.2 (by have := of_decide_eq_true hj; omega), h⟩
  | false =>
    cases n with
    | zero =>
      rw [lgD_one0 hr]
      constructor
      · intro h; cases h
      · rintro ⟨m, _, h⟩
        rw [if_neg (by simp), Bool.and_eq_true] at h
        have := of_decide_eq_true h.1
        omega
    | succ n =>
      rw [lgD_one hr, Bool.and_eq_true]
      constructor
      · rintro ⟨h1, h2⟩
        exact ⟨n, h1, by rw [if_neg (by simp), h2]; simp⟩
      · rintro ⟨m, h1, h2⟩
        rw [if_neg (by simp), Bool.and_eq_true] at h2
        have := of_decide_eq_true h2.1
        obtain rfl : n = m := by omega
        exact ⟨h1, h2.2⟩
theorem lgD_le {L : LgL} {T : LgT} {i k n : Nat} (h : Lg.D L T i k n = true) : i ≤ n := by
  rcases Nat.lt_or_ge n i with e | e
  · rw [lgD_lt L T i k n e] at h; cases h
  · exact e
theorem lgD_front (T : LgT) : ∀ (k : Nat) (L : LgL) (i n : Nat), Lg.D L T i (k + 1) n = true ↔ ∃ m, Lg.one (L 0) T i m = true ∧ Lg.D (fun x => L (x + 1)) T m k n = true
  | 0, L, i, n => by
    rw [lgD_back]
    constructor
    · rintro ⟨m, h1, h2⟩
      rw [lgD_zero, beq_iff_eq] at h1
      subst h1
      exact ⟨n, h2, by rw [lgD_zero]; simp⟩
    · rintro ⟨m, h1, h2⟩
      rw [lgD_zero, beq_iff_eq] at h2
      subst h2
      exact ⟨i, by rw [lgD_zero]; simp, h1⟩
  | k + 1, L, i, n => by
    rw [lgD_back]
    constructor
    · rintro ⟨m, h1, h2⟩
      obtain ⟨p, h3, h4⟩ := (lgD_front T k L i m).1 h1
      exact ⟨p, h3, (lgD_back (fun x => L (x + 1)) T p k n).2 ⟨m, h4, h2⟩⟩
    · rintro ⟨p, h3, h4⟩
      obtain ⟨m, h5, h6⟩ := (lgD_back (fun x => L (x + 1)) T p k n).1 h4
      exact ⟨m, (lgD_front T k L i m).2 ⟨p, h3, h5⟩, h6⟩
theorem lgone_rev {x : Bool × BitVec 256} {T T' : LgT} {tt m n : Nat} (hT : ∀ q, q < tt → T' q = T (tt - 1 - q)) (hn : n ≤ tt) (hm : m ≤ n) : Lg.one x T' m n = Lg.one x T (tt - n) (tt - m) := by
  unfold Lg.one
  cases x.1 with
  | true => rw [if_pos rfl, if_pos rfl]; congr 1; apply propext; omega
  | false =>
    rw [if_neg (by simp), if_neg (by simp)]
    by_cases e : n = m + 1
    · rw [decide_eq_true e, decide_eq_true (show tt - m = tt - n + 1 by omega), hT m (by omega), show tt - 1 - m = tt - n by omega]
    · rw [decide_eq_false e, decide_eq_false (show ¬ tt - m = tt - n + 1 by omega)]; simp
theorem lgD_rev (T T' : LgT) (tt : Nat) (hT : ∀ q, q < tt → T' q = T (tt - 1 - q)) : ∀ (len : Nat) (L L' : LgL) (n : Nat), (∀ k, k < len → L' k = L (len - 1 - k)) → n ≤ tt → (Lg.D L' T' 0 len n = true ↔ Lg.D L T (tt - n) len tt = true)
  | 0, L, L', n, hL, hn => by
    rw [lgD_zero, lgD_zero, beq_iff_eq, beq_iff_eq]; omega
  | len + 1, L, L', n, hL, hn => by
    rw [lgD_back, lgD_front]
    have h0 : L' len = L 0 := by rw [hL len (by omega)]; congr 1; omega
    have ih := fun m hm => lgD_rev T T' tt hT len (fun x => L (x + 1)) L' m (fun k hk => by rw [hL k (by omega)]; show L _ = L _; congr 1; omega) hm
    rw [h0]
    constructor
    · rintro ⟨m, h1, h2⟩
      have hmn := lgone_le h2
      exact ⟨tt - m, by rw [← lgone_rev hT hn hmn]; exact h2, (ih m (by omega)).1 h1⟩
    · rintro ⟨p, h1, h2⟩
      have hp := lgD_le h2
      have hp2 := lgone_le h1
      have e : tt - (tt - p) = p := by omega
      refine ⟨tt - p, (ih (tt - p) (by omega)).2 (by rw [e]; exact h2), ?_⟩
      rw [lgone_rev hT hn (by omega), e]; exact h1
theorem lgone_shift (x : Bool × BitVec 256) (T : LgT) (i m n : Nat) : Lg.one x (fun q => T (i + q)) m n = Lg.one x T (i + m) (i + n) := by
  unfold Lg.one
  cases x.1 with
  | true => rw [if_pos rfl, if_pos rfl]; congr 1; apply propext; omega
  | false =>
    rw [if_neg (by simp), if_neg (by simp)]
    congr 2
    apply propext; omega
theorem lgD_shift (L : LgL) (T : LgT) (i j : Nat) : ∀ k n, Lg.D L (fun q => T (i + q)) j k n = true ↔ Lg.D L T (i + j) k (i + n) = true
  | 0, n => by rw [lgD_zero, lgD_zero, beq_iff_eq, beq_iff_eq]; omega
  | k + 1, n => by
    rw [lgD_back, lgD_back]
    constructor
    · rintro ⟨m, h1, h2⟩
      exact ⟨i + m, (lgD_shift L T i j k m).1 h1, by rw [← lgone_shift]; exact h2⟩
    · rintro ⟨m, h1, h2⟩
      have := lgD_le h1
      obtain ⟨q, rfl⟩ : ∃ q, m = i + q := ⟨m - i, by omega⟩
      exact ⟨q, (lgD_shift L T i j k q).2 h1, by rw [lgone_shift]; exact h2⟩
theorem lgD_congr {L L2 : LgL} {T T2 : LgT} (i : Nat) : ∀ (k n : Nat), (∀ x, x < k → L x = L2 x) → (∀ x, x < n → T x = T2 x) → Lg.D L T i k n = Lg.D L2 T2 i k n
  | 0, n, hL, hT => by rw [lgD_zero, lgD_zero]
  | k + 1, n, hL, hT => by
    have e := hL k (by omega)
    cases hr : (L k).1 with
    | true =>
      rw [lgD_run hr, lgD_run (by rw [← e]; exact hr)]
      exact any_congr_mem fun j hj => lgD_congr i k j (fun x hx => hL x (by omega)) (fun x hx => hT x (by have := List.mem_range.1 hj; omega))
    | false =>
      have hr2 : (L2 k).1 = false := by rw [← e]; exact hr
      cases n with
      | zero => rw [lgD_one0 hr, lgD_one0 hr2]
      | succ n => rw [lgD_one hr, lgD_one hr2, lgD_congr i k n (fun x hx => hL x (by omega)) (fun x hx => hT x (by omega)), e, hT n (by omega)]
theorem bool_iff {a b : Bool} (h : a = true ↔ b = true) : a = b := by
  cases a <;> cases b <;> simp_all
theorem lgL_rev (l : List (Bool × BitVec 256)) (k : Nat) (hk : k < l.length) : lgL l.reverse k = lgL l (l.length - 1 - k) := by
  unfold lgL
  rw [List.getElem?_reverse hk]
/-- Backwards from a place. -/
theorem lg_backwards (l : List (Bool × BitVec 256)) (T : LgT) (tt n : Nat) (hn : n ≤ tt) : Lg.D (lgL l.reverse) (fun q => T (tt - 1 - q)) 0 l.length n = Lg.D (lgL l) T (tt - n) l.length tt :=
  bool_iff (lgD_rev T _ tt (fun _ _ => rfl) l.length (lgL l) _ n (fun k hk => lgL_rev l k hk) hn)
/-- A piece of a text. -/
theorem lg_piece (l : List (Bool × BitVec 256)) (t : List UInt8) (i tt : Nat) (hi : i ≤ tt) (ht : tt ≤ t.length) : Lg.m l ((t.drop i).take (tt - i)) = Lg.D (lgL l) (lgT t) i l.length tt := by
  unfold Lg.m
  have hlen : ((t.drop i).take (tt - i)).length = tt - i := by rw [List.length_take, List.length_drop]; omega
  rw [hlen, lgD_congr (L2 := lgL l) (T2 := fun q => lgT t (i + q)) 0 l.length (tt - i) (fun _ _ => rfl) (fun x hx => by
    unfold lgT
    rw [List.getElem?_take, if_pos hx, List.getElem?_drop])]
  have := bool_iff (lgD_shift (lgL l) (lgT t) i 0 l.length (tt - i))
  rw [this, Nat.add_zero, show i + (tt - i) = tt by omega]
/-- One pattern behind another one. -/
theorem lg_join (l m : List (Bool × BitVec 256)) (T : LgT) (i : Nat) : ∀ k n, k ≤ m.length → (Lg.D (lgL (l ++ m)) T i (l.length + k) n = true ↔ ∃ p, Lg.D (lgL l) T i l.length p = true ∧ Lg.D (lgL m) T p k n = true)
  | 0, n, hk => by
    have e : Lg.D (lgL (l ++ m)) T i (l.length + 0) n = Lg.D (lgL l) T i l.length n := lgD_congr i l.length n (fun x hx => by
      unfold lgL; rw [List.getElem?_append_left hx]) (fun _ _ => rfl)
    rw [e]
    constructor
    · intro h; exact ⟨n, h, by rw [lgD_zero]; simp⟩
    · rintro ⟨p, h1, h2⟩
      rw [lgD_zero, beq_iff_eq] at h2
      rw [h2]; exact h1
  | k + 1, n, hk => by
    have e : lgL (l ++ m) (l.length + k) = lgL m k := by
      unfold lgL
      rw [List.getElem?_append_right (by omega)]
      congr 2; omega
    rw [← Nat.add_assoc, lgD_back, e]
    constructor
    · rintro ⟨q, h1, h2⟩
      obtain ⟨p, h3, h4⟩ := (lg_join l m T i k q (by omega)).1 h1
      exact ⟨p, h3, (lgD_back _ T p k n).2 ⟨q, h4, h2⟩⟩
    · rintro ⟨p, h3, h4⟩
      obtain ⟨q, h5, h6⟩ := (lgD_back _ T p k n).1 h4
      exact ⟨q, (lg_join l m T i k q (by omega)).2 ⟨p, h3, h5⟩, h6⟩
/-- All places from which a pattern occurs to one. -/
def Lg.starts (l : List (Bool × BitVec 256)) (t : List UInt8) (tt : Nat) : List Nat := (List.range' 0 (tt + 1)).filter fun i => Lg.D (lgL l) (lgT t) i l.length tt
/-- Those of them from k on. -/
def Lg.fr (l : List (Bool × BitVec 256)) (t : List UInt8) (tt k : Nat) : List Nat := (List.range' k (tt + 1 - k)).filter fun i => Lg.D (lgL l) (lgT t) i l.length tt
theorem lgfrom_end (l : List (Bool × BitVec 256)) (t : List UInt8) (tt : Nat) : Lg.fr l t tt (tt + 1) = [] := by unfold Lg.fr; simp
theorem lgfrom_yes {l : List (Bool × BitVec 256)} {t : List UInt8} {tt k : Nat} (hk : k ≤ tt) (h : Lg.D (lgL l) (lgT t) k l.length tt = true) : Lg.fr l t tt k = k :: Lg.fr l t tt (k + 1) := by
  unfold Lg.fr
  rw [show tt + 1 - k = (tt + 1 - (k + 1)) + 1 by omega, List.range'_succ, List.filter_cons, if_pos h]
theorem lgfrom_no {l : List (Bool × BitVec 256)} {t : List UInt8} {tt k : Nat} (hk : k ≤ tt) (h : Lg.D (lgL l) (lgT t) k l.length tt = false) : Lg.fr l t tt k = Lg.fr l t tt (k + 1) := by
  unfold Lg.fr
  rw [show tt + 1 - k = (tt + 1 - (k + 1)) + 1 by omega, List.range'_succ, List.filter_cons, if_neg (by rw [h]; simp)]
theorem lgfrom_le (l : List (Bool × BitVec 256)) (t : List UInt8) (tt k : Nat) : (Lg.fr l t tt k).length ≤ tt + 1 - k := by
  unfold Lg.fr
  have := List.length_filter_le (fun i => Lg.D (lgL l) (lgT t) i l.length tt) (List.range' k (tt + 1 - k))
  simpa using this
end Go.Proofs.Ytoniipmgkoogbaa
/- Patterns: places where one begins. -/
namespace Go.Proofs.Ytoniipmgkoogbaa
open Go.ChangeShapes Go.WideShapes Go.ChangeAt Go.RowKit
set_option linter.unusedSimpArgs false
set_option linter.unusedVariables false

open Go.Shelf
/-- A number as a cell. -/
def nv (x : Nat) : Value := .int .i64 (x : Int)
theorem infoN : (Try.prog.info? 3).map (fun i => (i.zero, i.size, i.bytes)) = some (some (.int .i64 0), 1, 8) := by kernel_rfl
theorem one_nv (x : Int) : ∀ u ∈ [Value.int .i64 x], u.oneCell' = true := by intro u hu; simp at hu; subst hu; rfl
/-- Numbers by value: none, or at the head of a block. -/
def NV (w : World) (a : Option Addr) (L : List Nat) : Prop := L = [] ∨ ∃ g, a = some ⟨g, 0, none⟩ ∧ g < w.heap.size ∧ ∀ j x, L[j]? = some x → w.cell? ⟨g, j, none⟩ = some (nv x)
theorem NV.below {w w' : World} {a : Option Addr} {L : List Nat} (h : NV w a L) (k : Below w.heap.size w w') : NV w' a L := by
  rcases h with h | ⟨g, h1, h2, h3⟩
  · exact Or.inl h
  · exact Or.inr ⟨g, h1, Nat.lt_of_lt_of_le h2 k.size, fun j x hx => by rw [k.cell (p := ⟨g, j, none⟩) h2]; exact h3 j x hx⟩
theorem own_chg {w w' : World} {base n sz : Nat} {e : TypeId} {v : Value} {xs : List Value} (h : w.ownsRow base e sz v n xs) {l : List Nat} (k : Chg l w w') (hl : ∀ x ∈ l, x < base) : w'.ownsRow base e sz v n xs := by
  refine ⟨h.1, ?_⟩
  rcases h.2 with h | ⟨g, cap, cur, h1, h2, h3, h4⟩
  · exact Or.inl h
  · exact Or.inr ⟨g, cap, cur, h1, h2, by rw [k.block g (Array.getElem?_eq_some_iff.1 h3).1 (fun hm => by have := hl g hm; omega)]; exact h3, h4⟩
theorem own_fresh {w w' : World} {base n sz : Nat} {e : TypeId} {v : Value} {xs : List Value} (h : w.ownsRow base e sz v n xs) (k : Below w.heap.size w w') : w'.ownsRow base e sz v n xs := own_chg h (Chg.of_fresh (l := []) k) (by simp)
theorem own_nv {w : World} {base n : Nat} {v : Value} {L : List Nat} (h : w.ownsRow base 3 1 v n (L.map nv)) : L.length = n ∧ ∃ a c, v = .slice a n c ∧ NV w a L := by
  have hl : L.length = n := by have := h.1; simp at this; omega
  refine ⟨hl, ?_⟩
  rcases h.2 with ⟨h1, h2⟩ | ⟨g, cap, cur, h1, h2, h3, h4, h5, h6, h7⟩
  · exact ⟨none, 0, by rw [h1, h2], Or.inl (List.eq_nil_of_length_eq_zero (by omega))⟩
  · refine ⟨some ⟨g, 0, none⟩, cap, h1, Or.inr ⟨g, rfl, (Array.getElem?_eq_some_iff.1 h3).1, fun j x hx => ?_⟩⟩
    have hb : Blk w g cur.toList 3 := by unfold Blk; exact h3
    refine hb.cell ?_
    have hlt : j < n := by have := (List.getElem?_eq_some_iff.1 hx).1; omega
    have e : (L.map nv)[j]? = some (nv x) := by rw [List.getElem?_map, hx]; rfl
    rw [← h7, List.getElem?_take, if_pos (by omega)] at e
    exact e
theorem lgS_next {L : LgL} {n : Nat} {T : LgT} {an : Bool} {m : Nat} {b : UInt8} (h : T m = b) : Lg.S L n T an (m + 1) = Lg.P L (Lg.nx L n (Lg.S L n T an m) b an) := by rw [Lg.S, h]
end Go.Proofs.Ytoniipmgkoogbaa
/- Patterns: where one occurs first. -/
namespace Go.Proofs.Ytoniipmgkoogbaa
open Go.ChangeShapes Go.WideShapes Go.ChangeAt Go.RowKit
set_option linter.unusedSimpArgs false
set_option linter.unusedVariables false

/-- Whether a pattern occurs to a place. -/
def Lg.occ (l : List (Bool × BitVec 256)) (t : List UInt8) (k : Nat) : Bool := (List.range (k + 1)).any fun i => Lg.D (lgL l) (lgT t) i l.length k
theorem lgS_occ (l : List (Bool × BitVec 256)) (t : List UInt8) (n k : Nat) (hn : l.length = n) : Lg.S (lgL l) n (lgT t) true k n = Lg.occ l t k := by
  rw [lgS_any _ _ _ _ _ (Nat.le_refl _)]
  unfold Lg.occ
  rw [hn]
  exact any_congr_mem fun i _ => lgE_len _ _ _ _ _
/-- Where a pattern occurs first. -/
def Lg.firstR (l : List (Bool × BitVec 256)) (t : List UInt8) : Nat × Nat × Bool := match (List.range (t.length + 1)).find? (Lg.occ l t) with
  | none => (0, 0, false)
  | some k => ((Lg.starts l t k).headD 0, k, true)
theorem first_some {l : List (Bool × BitVec 256)} {t : List UInt8} {k : Nat} (hk : k ≤ t.length) (h0 : ∀ j, j < k → Lg.occ l t j = false) (h : Lg.occ l t k = true) : Lg.firstR l t = ((Lg.starts l t k).headD 0, k, true) := by
  unfold Lg.firstR
  have : (List.range (t.length + 1)).find? (Lg.occ l t) = some k := by
    rw [List.find?_range_eq_some]
    exact ⟨h, List.mem_range.2 (by omega), fun j hj => by rw [h0 j hj]; rfl⟩
  rw [this]
theorem first_none {l : List (Bool × BitVec 256)} {t : List UInt8} (h0 : ∀ j, j ≤ t.length → Lg.occ l t j = false) : Lg.firstR l t = (0, 0, false) := by
  unfold Lg.firstR
  have : (List.range (t.length + 1)).find? (Lg.occ l t) = none := by
    rw [List.find?_eq_none]
    intro j hj
    rw [h0 j (by have := List.mem_range.1 hj; omega)]; simp
  rw [this]
theorem starts_occ (l : List (Bool × BitVec 256)) (t : List UInt8) (k : Nat) (h : Lg.occ l t k = true) : ∃ y L, Lg.starts l t k = y :: L := by
  unfold Lg.occ at h
  rw [List.any_eq_true] at h
  obtain ⟨i, hi, hd⟩ := h
  have hm : i ∈ Lg.starts l t k := by
    unfold Lg.starts
    rw [List.mem_filter]
    exact ⟨by rw [List.mem_range'_1]; have := List.mem_range.1 hi; omega, hd⟩
  match e : Lg.starts l t k, hm with
  | y :: L, _ => exact ⟨y, L, rfl⟩
theorem starts_no (l : List (Bool × BitVec 256)) (t : List UInt8) (k : Nat) (h : Lg.occ l t k = false) : Lg.starts l t k = [] := by
  unfold Lg.occ at h
  rw [List.any_eq_false] at h
  unfold Lg.starts
  rw [List.filter_eq_nil_iff]
  intro i hi
  rw [List.mem_range'_1] at hi
  exact h i (List.mem_range.2 (by omega))
theorem NV.head {w : World} {a : Option Addr} {L Ls : List Nat} {y : Nat} (h : NV w a L) (e : L = y :: Ls) : ∃ g, a = some ⟨g, 0, none⟩ ∧ w.cell? ⟨g, 0, none⟩ = some (.int .i64 (y : Int)) := by
  rcases h with h | ⟨g, h1, h2, h3⟩
  · rw [h] at e; cases e
  · exact ⟨g, h1, h3 0 y (by rw [e]; rfl)⟩
/-- The places to which a pattern occurs, ahead of k. -/
def Lg.en (l : List (Bool × BitVec 256)) (t : List UInt8) (k : Nat) : List Nat := (List.range k).filter (Lg.occ l t)
theorem lgen_yes {l : List (Bool × BitVec 256)} {t : List UInt8} {k : Nat} (h : Lg.occ l t k = true) : Lg.en l t (k + 1) = Lg.en l t k ++ [k] := by
  unfold Lg.en; rw [List.range_succ, List.filter_append]; simp [h]
theorem lgen_no {l : List (Bool × BitVec 256)} {t : List UInt8} {k : Nat} (h : Lg.occ l t k = false) : Lg.en l t (k + 1) = Lg.en l t k := by
  unfold Lg.en; rw [List.range_succ, List.filter_append]; simp [h]
end Go.Proofs.Ytoniipmgkoogbaa
/- Patterns: to where one occurs. -/
namespace Go.Proofs.Ytoniipmgkoogbaa
open Go.ChangeShapes Go.WideShapes Go.ChangeAt Go.RowKit
set_option linter.unusedSimpArgs false
set_option linter.unusedVariables false

end Go.Proofs.Ytoniipmgkoogbaa
