/- Slots: the program's side, for any plays. -/
import Derived.Test.YthofnpcaeopojaaSl6
namespace Go.Proofs.Ythofnpcaeopojaa
open Go.ChangeShapes Go.WideShapes Go.ChangeAt Go.RowKit
set_option linter.unusedSimpArgs false
set_option linter.unusedVariables false

/-- Where a number stands first; below 0: nowhere. -/
def ix : List Int → Int → Int
  | [], _ => -1
  | x :: r, v => if x == v then 0 else if ix r v == -1 then -1 else ix r v + 1
theorem ix_from (v : Int) : ∀ (l : List Int) (i : Nat), Lib.idxFrom l v i = if ix l v = -1 then -1 else (i : Int) + ix l v
  | [], i => by simp [Lib.idxFrom, ix]
  | x :: r, i => by
    by_cases hx : x = v
    · simp [Lib.idxFrom, ix, hx]
    · have ih := ix_from v r (i + 1)
      have hb : (x == v) = false := by simpa using hx
      simp only [Lib.idxFrom, ix, hb, Bool.false_eq_true, if_false, hx]
      rw [ih]
      by_cases h : ix r v = -1
      · simp [h]
      · have hg : ¬ (ix r v + 1 = -1) := by
          have : ∀ l : List Int, -1 ≤ ix l v := fun l => by
            induction l with
            | nil => simp [ix]
            | cons a b ihb => simp only [ix]; split; · omega
                              · split <;> omega
          have := this r; omega
        simp [h, hg]; omega
theorem ix_eq (l : List Int) (v : Int) : Lib.idxOf l v = ix l v := by
  unfold Lib.idxOf
  rw [ix_from]
  split
  · omega
  · simp
/-- The first free slot from one on. -/
def ff (W : List Int) (t : Nat) : Int := if ix (W.drop t) (-1) = -1 then -1 else (t : Int) + ix (W.drop t) (-1)
theorem idxOf_ge : ∀ (l : List Int) (v : Int), -1 ≤ ix l v ∧ ix l v < l.length
  | [], v => by simp [ix]
  | x :: r, v => by
    have := idxOf_ge r v
    simp only [ix, List.length_cons, beq_iff_eq]
    split
    · omega
    · split <;> omega
theorem ff_no (W : List Int) (t : Nat) (h : t < W.length) (hv : W.getD t 0 = -1) : ff W t = t := by
  have e : W[t] = -1 := by rw [← hv]; simp [List.getD, List.getElem?_eq_getElem h]
  unfold ff
  rw [List.drop_eq_getElem_cons h, e]
  simp [ix]
theorem ff_yes (W : List Int) (t : Nat) (h : t < W.length) (hv : ¬ W.getD t 0 = -1) : ff W t = ff W (t + 1) := by
  have e : W[t] = W.getD t 0 := by simp [List.getD, List.getElem?_eq_getElem h]
  have hg := idxOf_ge (W.drop (t + 1)) (-1)
  unfold ff
  rw [List.drop_eq_getElem_cons h, e]
  simp only [ix, beq_iff_eq, hv, if_false]
  by_cases h1 : ix (W.drop (t + 1)) (-1) = -1
  · simp [h1]
  · simp only [h1, if_false]
    rw [if_neg (by omega)]
    omega
theorem ff_0 (W : List Int) : ff W 0 = ix W (-1) := by
  unfold ff
  rw [List.drop_zero]
  split
  · omega
  · simp
theorem ff_end (W : List Int) (n : Nat) (h : W.length = n) : ff W n = -1 := by
  unfold ff
  rw [List.drop_of_length_le (by omega)]
  simp [ix]
theorem idxOf_at : ∀ (l : List Int) (v : Int) (j : Nat), ix l v = (j : Int) → l[j]? = some v
  | [], v, j, h => by simp only [ix] at h; omega
  | x :: r, v, j, h => by
    simp only [ix, beq_iff_eq] at h
    by_cases hx : x = v
    · simp [hx] at h
      obtain rfl : j = 0 := by omega
      subst hx; rfl
    · simp only [beq_iff_eq, hx, if_false] at h
      split at h
      · omega
      · obtain ⟨i, rfl⟩ : ∃ i, j = i + 1 := ⟨j - 1, by omega⟩
        have := idxOf_at r v i (by omega)
        simpa using this
theorem idxOf_none : ∀ (l : List Int) (v : Int), ix l v = -1 → l.count v = 0
  | [], v, h => rfl
  | x :: r, v, h => by
    have hg := idxOf_ge r v
    simp only [ix, beq_iff_eq] at h
    by_cases hx : x = v
    · simp [hx] at h
    · simp only [beq_iff_eq, hx, if_false] at h
      split at h
      · rename_i h2
        rw [List.count_cons_of_ne (fun e => hx e)]
        exact idxOf_none r v h2
      · omega
/-- Slots that hold together, in memory. -/
def SL (w0 w : World) (s g m n : Nat) (W : List Int) (M : List (Int × Int × Nat)) (c nx : Nat) : Prop := SB w0 w s g m n W M c nx ∧ SOk n W M c nx
theorem SL.le {w0 w : World} {s g m n c nx : Nat} {W : List Int} {M : List (Int × Int × Nat)} (h : SL w0 w s g m n W M c nx) : M.length ≤ n := by have := h.2.2.2.2.2; omega
theorem SL.wl {w0 w : World} {s g m n c nx : Nat} {W : List Int} {M : List (Int × Int × Nat)} (h : SL w0 w s g m n W M c nx) : W.length = n := h.2.2.1
theorem SL.bel {w0 w : World} {s g m n c nx : Nat} {W : List Int} {M : List (Int × Int × Nat)} (h : SL w0 w s g m n W M c nx) : Below w0.heap.size w0 w := h.1.2.1
theorem SL.full {w0 w : World} {s g m n c nx : Nat} {W : List Int} {M : List (Int × Int × Nat)} (h : SL w0 w s g m n W M c nx) (h1 : 1 ≤ n) (hi : ix W (-1) = -1) : 1 ≤ nx := by
  have h2 := idxOf_none W (-1) hi
  have h3 := h.2.2.2.2.2
  have hl : 0 < M.length := by omega
  have := (h.2.2.2.1 _ (List.getElem_mem hl)).1
  have := h.2.1.2.2.1 _ (List.getElem_mem hl)
  omega
theorem lv_any {w0 w : World} {s g m n c nx : Nat} {W : List Int} {M : List (Int × Int × Nat)} (h : SL w0 w s g m n W M c nx) :
    Calls Try.prog 19 #[.pointer (some ⟨s, 0, none⟩)] w fun e w' => ∃ a cp, e = .returned (.slice a M.length cp) ∧ SL w0 w' s g m n W M c nx :=
  (sl_live s g m n W M c nx w h.1.1 h.2.1).mono fun e w' ⟨v, he, k1, k2⟩ => by
    have hs : ∃ a cp, v = .slice a M.length cp := by
      rcases k1 with ⟨_, ⟨hv, hn⟩ | ⟨g', cap, cur, hv, _⟩⟩
      · exact ⟨none, 0, by rw [hv, hn]⟩
      · exact ⟨_, _, hv⟩
    obtain ⟨a, cp, rfl⟩ := hs
    exact ⟨a, cp, he, h.1.fresh k2, h.2⟩
theorem fr_any {w0 w : World} {s g m n c nx : Nat} {W : List Int} {M : List (Int × Int × Nat)} (hn : n ≤ 1024) (h : SL w0 w s g m n W M c nx) :
    Calls Try.prog 20 #[.pointer (some ⟨s, 0, none⟩)] w fun e w' => e = .returned (.int .i64 ((n : Int) - (M.length : Int))) ∧ SL w0 w' s g m n W M c nx :=
  (sl_free s g m n W M c nx w hn h.2.1.2.2.2 h.1.1).mono fun e w' ⟨he, q, hw⟩ => ⟨he, by rw [hw]; exact ⟨h.1.fresh (below_drewN (Below.refl _ _) q), h.2⟩⟩
theorem cl_any {w0 w : World} {s g m n c nx : Nat} {W : List Int} {M : List (Int × Int × Nat)} (id : Int) (hn : n ≤ 1024) (h : SL w0 w s g m n W M c nx) :
    Calls Try.prog 12 #[.pointer (some ⟨s, 0, none⟩), .int .i64 id] w fun e w' => ∃ (b : Bool) (W' : List Int) (M' : List (Int × Int × Nat)), e = .returned (.bool b) ∧ SL w0 w' s g m n W' M' c nx := by
  cases hi : mIdx M id with
  | none => exact (sl_close_no s g m n W M c nx id w h.1.1 hi).mono fun e w' ⟨he, hw⟩ => ⟨false, W, M, he, by rw [← hw]; exact h⟩
  | some p =>
    obtain ⟨i, v⟩ := p
    obtain ⟨b, hb⟩ := mIdx_some hi
    obtain ⟨_, j, hj, _⟩ := h.2.2.2.1 _ (List.mem_of_getElem? hb)
    simp only at hj
    subst hj
    obtain ⟨k1, k2⟩ := h.2.close hb
    exact (sl_close s g m n W M c nx id i j w hn k2 h.1.1 hi).mono fun e w' ⟨he, k3, k4⟩ => ⟨true, _, _, he, h.1.to k3 k4 (three s g m), k1⟩
theorem op_yes {w0 w : World} {s g m n c nx j : Nat} {W : List Int} {M : List (Int × Int × Nat)} (hn : n ≤ 1024) (hnx : nx < 4096) (hj : ix W (-1) = (j : Int)) (h : SL w0 w s g m n W M c nx) :
    Calls Try.prog 10 #[.pointer (some ⟨s, 0, none⟩)] w fun e w' => e = .returned (.tuple #[.int .i64 nx, .int .i64 j, .bool true]) ∧ SL w0 w' s g m n (W.set j nx) (M ++ [((nx : Int), (j : Int), c)]) (c + 1) (nx + 1) := by
  have hat := idxOf_at W (-1) j hj
  have hjl : j < n := by rw [← h.2.2.1]; exact (List.getElem?_eq_some_iff.1 hat).1
  refine (sl_open s g m n W M c nx j w hn (by omega) (by omega) hjl ((ix_eq _ _).trans hj) (mIdx_none fun x hx e => by have := (h.2.2.2.1 x hx).1; omega) (fun x hx => (h.2.1.2.2.1 x hx).1) h.1.1).mono ?_
  rintro e w' ⟨he, k1, k2⟩
  exact ⟨he, h.1.to (by rw [Int.natCast_add]; exact k1) k2 (three s g m), h.2.open hn hnx hat⟩
theorem op_no {w0 w : World} {s g m n c nx : Nat} {W : List Int} {M : List (Int × Int × Nat)} (hn : n ≤ 1024) (hnx : nx < 4096) (hj : ix W (-1) = -1) (h : SL w0 w s g m n W M c nx) :
    Calls Try.prog 10 #[.pointer (some ⟨s, 0, none⟩)] w fun e w' => e = .returned (.tuple #[.int .i64 0, .int .i64 0, .bool false]) ∧ w = w' :=
  sl_open_full s g m n W M c nx w hn (by omega) ((ix_eq _ _).trans hj) h.1.1
theorem who_no {w0 w : World} {s g m n c nx j : Nat} {W : List Int} {M : List (Int × Int × Nat)} (hn : n ≤ 1024) (hj : j < n) (hv : W.getD j 0 = -1) (h : SL w0 w s g m n W M c nx) :
    Calls Try.prog 17 #[.pointer (some ⟨s, 0, none⟩), .int .i64 j] w fun e w' => e = .returned (.tuple #[.int .i64 0, .bool false]) ∧ w = w' := sl_who_no s g m n W M c nx j w hn hj hv h.1.1
theorem who_yes {w0 w : World} {s g m n c nx j : Nat} {W : List Int} {M : List (Int × Int × Nat)} {v : Int} (hn : n ≤ 1024) (hj : j < n) (hv : W.getD j 0 = v) (hne : (v == -1) = false) (h : SL w0 w s g m n W M c nx) :
    Calls Try.prog 17 #[.pointer (some ⟨s, 0, none⟩), .int .i64 j] w fun e w' => e = .returned (.tuple #[.int .i64 v, .bool true]) ∧ w = w' := sl_who_yes s g m n W M c nx v j w hn hj hv hne h.1.1
end Go.Proofs.Ythofnpcaeopojaa
