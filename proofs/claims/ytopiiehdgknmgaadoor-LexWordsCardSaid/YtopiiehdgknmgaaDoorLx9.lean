/- Lex: words joined and read again. -/
import Derived.Test.YtopiiehdgknmgaaDoorLx8
namespace Go.Proofs.YtopiiehdgknmgaaDoor
open Go.ChangeShapes Go.WideShapes Go.ChangeAt Go.RowKit
set_option linter.unusedSimpArgs false
set_option linter.unusedVariables false

/-- A word as it is written. -/
def Lx.wt (x : List UInt8 × Bool × Nat) : List UInt8 := if x.2.1 = true then Qt.quo x.1 else x.1
/-- Words with a blank between each two. -/
def Lx.cat : List (List UInt8 × Bool × Nat) → List UInt8
  | [] => []
  | [x] => Lx.wt x
  | x :: y :: r => Lx.wt x ++ (32 :: Lx.cat (y :: r))
theorem cat_snoc (x : List UInt8 × Bool × Nat) : ∀ (l : List (List UInt8 × Bool × Nat)), l ≠ [] → Lx.cat (l ++ [x]) = Lx.cat l ++ (32 :: Lx.wt x)
  | [], h => absurd rfl h
  | [a], _ => rfl
  | a :: b :: r, _ => by
    have := cat_snoc x (b :: r) (by simp)
    simp only [List.cons_append, Lx.cat] at this ⊢
    rw [this]; simp
theorem cat_join : ∀ (l : List (List UInt8 × Bool × Nat)), Lib.join (l.map Lx.wt) [32] = Lx.cat l
  | [] => rfl
  | [a] => by simp [Lib.join, List.intercalate, Lx.cat]
  | a :: b :: r => by
    have := cat_join (b :: r)
    rw [Lx.cat, ← this]
    simp [Lib.join, List.intercalate]
theorem cat_more : ∀ (l : List (List UInt8 × Bool × Nat)), l.length ≤ (Lx.cat l).length + 1
  | [] => by simp
  | [a] => by simp
  | a :: b :: r => by
    have := cat_more (b :: r)
    rw [Lx.cat]
    simp at this ⊢
    omega
/-- What the words take, with a sign behind each. -/
def Lx.cost : List (List UInt8 × Bool × Nat) → Nat
  | [] => 0
  | x :: r => (Lx.wt x).length + 1 + Lx.cost r
theorem cost_snoc (x : List UInt8 × Bool × Nat) : ∀ (l : List (List UInt8 × Bool × Nat)), Lx.cost (l ++ [x]) = Lx.cost l + (Lx.wt x).length + 1
  | [] => by simp [Lx.cost]
  | a :: r => by rw [List.cons_append, Lx.cost, cost_snoc x r, Lx.cost]; omega
theorem cost_take : ∀ (l : List (List UInt8 × Bool × Nat)) (k : Nat), Lx.cost (l.take k) ≤ Lx.cost l
  | [], k => by simp
  | a :: r, 0 => by simp [Lx.cost]
  | a :: r, k + 1 => by have := cost_take r k; simp [Lx.cost]; omega
theorem cost_mem : ∀ (l : List (List UInt8 × Bool × Nat)) (x : List UInt8 × Bool × Nat), x ∈ l → (Lx.wt x).length < Lx.cost l
  | [], x, h => by simp at h
  | a :: r, x, h => by
    rw [Lx.cost]
    rcases List.mem_cons.1 h with e | h
    · rw [e]; omega
    · have := cost_mem r x h; omega
theorem cat_cost : ∀ (l : List (List UInt8 × Bool × Nat)), (Lx.cat l).length ≤ Lx.cost l
  | [] => by simp [Lx.cat]
  | [a] => by simp [Lx.cat, Lx.cost]
  | a :: b :: r => by
    have := cat_cost (b :: r)
    rw [Lx.cat, Lx.cost]
    simp at this ⊢
    omega
theorem len_cost : ∀ (l : List (List UInt8 × Bool × Nat)), l.length ≤ Lx.cost l
  | [] => by simp
  | a :: r => by have := len_cost r; rw [Lx.cost]; simp; omega
/-- May the word be? -/
def Lx.fit (x : List UInt8 × Bool × Nat) : Prop := x.2.1 = false → x.1 ≠ [] ∧ ∀ b ∈ x.1, Lx.bare b = true
theorem run_bare (t m : List UInt8) (ht : ∀ b ∈ t, Lx.bare b = true) (hm : m = [] ∨ ∃ r, m = 32 :: r) : Lx.run (t ++ m) = t.length := by
  refine lxrun_stop _ _ (by simp) (fun j b hj hb => ?_) (fun b hb => ?_)
  · rw [List.getElem?_append_left hj] at hb
    exact ht b (List.mem_of_getElem? hb)
  · rw [List.getElem?_append_right (Nat.le_refl _), Nat.sub_self] at hb
    rcases hm with rfl | ⟨r, rfl⟩
    · simp at hb
    · simp at hb; subst hb; decide
theorem read_wt (x : List UInt8 × Bool × Nat) (hx : Lx.fit x) (m : List UInt8) (hm : m = [] ∨ ∃ r, m = 32 :: r) : Lx.read (Lx.wt x ++ m) = (x.1, x.2.1, (Lx.wt x).length, 0) := by
  obtain ⟨t, q, k⟩ := x
  cases q with
  | true =>
    have h := Qt.read_quo t m
    simp only [Lx.wt, if_true]
    have e : Qt.quo t ++ m = 34 :: (t.flatMap Qt.sgn ++ [34] ++ m) := by simp [Qt.quo]
    rw [e] at h ⊢
    simp only [Lx.read, if_true, h]
  | false =>
    obtain ⟨h1, h2⟩ := hx rfl
    dsimp only at h1 h2
    have hr := run_bare t m h2 hm
    have ew : Lx.wt (t, false, k) = t := by simp [Lx.wt]
    rw [ew]
    cases t with
    | nil => exact absurd rfl h1
    | cons c r =>
      have hc := h2 c (by simp)
      have h34 : c ≠ 34 := by intro e; subst e; revert hc; decide
      rw [List.cons_append] at hr ⊢
      simp only [Lx.read, if_neg h34, hr]
      rw [if_neg (by simp)]
      simp
/-- The words at the places at which they stand when joined. -/
def Lx.at : Nat → List (List UInt8 × Bool × Nat) → List (List UInt8 × Bool × Nat)
  | _, [] => []
  | k, x :: r => (x.1, x.2.1, k) :: Lx.at (k + (Lx.wt x).length + 1) r
theorem at_length : ∀ (l : List (List UInt8 × Bool × Nat)) (k : Nat), (Lx.at k l).length = l.length
  | [], _ => rfl
  | x :: r, k => by rw [Lx.at, List.length_cons, at_length r, List.length_cons]
theorem at_get : ∀ (l : List (List UInt8 × Bool × Nat)) (k j : Nat) (x : List UInt8 × Bool × Nat), l[j]? = some x → ∃ p, (Lx.at k l)[j]? = some (x.1, x.2.1, p)
  | [], _, _, _, h => by simp at h
  | a :: r, k, 0, x, h => by simp at h; subst h; exact ⟨k, rfl⟩
  | a :: r, k, j + 1, x, h => by
    obtain ⟨p, hp⟩ := at_get r (k + (Lx.wt a).length + 1) j x (by simpa using h)
    exact ⟨p, by rw [Lx.at]; simpa using hp⟩
theorem wd_back : ∀ (ws : List (List UInt8 × Bool × Nat)), ws ≠ [] → (∀ x ∈ ws, Lx.fit x) → ∀ (pre : List UInt8) (l : List (List UInt8 × Bool × Nat)) (f : Nat), ws.length ≤ f → Lx.wd (pre ++ Lx.cat ws) f pre.length l = (l ++ Lx.at pre.length ws, 0, 0)
  | [], h, _, _, _, _, _ => absurd rfl h
  | [x], _, hf, pre, l, f, hl => by
    cases f with
    | zero => simp at hl
    | succ f =>
      have h := read_wt x (hf x (by simp)) [] (Or.inl rfl)
      rw [List.append_nil] at h
      rw [Lx.wd, List.drop_left, Lx.cat, h]
      simp [Lx.at]
  | x :: y :: r, _, hf, pre, l, f, hl => by
    cases f with
    | zero => simp at hl
    | succ f =>
      have h := read_wt x (hf x (by simp)) (32 :: Lx.cat (y :: r)) (Or.inr ⟨_, rfl⟩)
      rw [Lx.wd, List.drop_left, Lx.cat, h]
      dsimp only
      rw [if_neg (by simp), if_neg (by simp <;> omega), if_neg (by
        rw [List.getElem?_append_right (by omega), show pre.length + (Lx.wt x).length - pre.length = (Lx.wt x).length by omega, List.getElem?_append_right (by omega)]; simp)]
      have ih := wd_back (y :: r) (by simp) (fun z hz => hf z (by simp at hz ⊢; exact Or.inr hz)) (pre ++ Lx.wt x ++ [32]) (l ++ [(x.1, x.2.1, pre.length)]) f (by simp at hl ⊢; omega)
      have e1 : (pre ++ Lx.wt x ++ [32]).length = pre.length + (Lx.wt x).length + 1 := by simp only [List.length_append, List.length_cons, List.length_nil]
      rw [e1] at ih
      have e2 : pre ++ Lx.wt x ++ [32] ++ Lx.cat (y :: r) = pre ++ (Lx.wt x ++ 32 :: Lx.cat (y :: r)) := by simp
      rw [e2] at ih
      rw [ih]
      conv => rhs; rw [Lx.at]
      simp
theorem words_back (ws : List (List UInt8 × Bool × Nat)) (hf : ∀ x ∈ ws, Lx.fit x) : Lx.words (Lx.cat ws) = (Lx.at 0 ws, 0, 0) := by
  by_cases h : ws = []
  · subst h; rfl
  · unfold Lx.words
    have hb := wd_back ws h hf [] [] ((Lx.cat ws).length + 1) (cat_more ws)
    simp only [List.nil_append, List.length_nil] at hb
    rw [hb]
    by_cases hc : Lx.cat ws = []
    · exfalso
      cases ws with
      | nil => exact h rfl
      | cons x r =>
        have hw : Lx.wt x = [] := by
          cases r with
          | nil => exact hc
          | cons y r => rw [Lx.cat] at hc; simp at hc
        have hx := hf x (by simp)
        unfold Lx.wt at hw
        by_cases hq : x.2.1 = true
        · rw [if_pos hq] at hw; simp [Qt.quo] at hw
        · rw [if_neg hq] at hw
          exact (hx (by simpa using hq)).1 hw
    · rw [if_neg hc]
theorem rd_small : ∀ (f : Nat) (l : List UInt8) (n : Nat) (out : List UInt8), (Qt.rd f l n out).1.length + n ≤ out.length + (Qt.rd f l n out).2.1
  | 0, l, n, out => by simp [Qt.rd]
  | f + 1, l, n, out => by
    rw [Qt.rd]
    by_cases h : l.head? = some 34
    · rw [if_pos h]; simp <;> omega
    · rw [if_neg h]
      by_cases h2 : (Qt.one l).2.2 = true
      · rw [if_pos h2]
        have h3 := rd_small f (l.drop (Qt.one l).2.1) (n + (Qt.one l).2.1) (out ++ [(Qt.one l).1])
        have h4 := (Qt.one_le l).2 h2
        rw [List.length_append] at h3
        simp at h3
        omega
      · rw [if_neg h2]; simp <;> omega
theorem tw_all (p : UInt8 → Bool) : ∀ (l : List UInt8) (b : UInt8), b ∈ l.takeWhile p → p b = true
  | [], b, h => by simp at h
  | a :: r, b, h => by
    by_cases ha : p a = true
    · rw [List.takeWhile_cons_of_pos ha] at h
      rcases List.mem_cons.1 h with e | h
      · rw [e]; exact ha
      · exact tw_all p r b h
    · rw [List.takeWhile_cons_of_neg ha] at h; simp at h
theorem lxread_fit (l : List UInt8) (h : (Lx.read l).2.2.2 = 0) (k : Nat) : Lx.fit ((Lx.read l).1, (Lx.read l).2.1, k) ∧ (Lx.wt ((Lx.read l).1, (Lx.read l).2.1, k)).length + 1 ≤ 7 * (Lx.read l).2.2.1 := by
  have hn := (lxread_n l).2 h
  revert h hn
  unfold Lx.read
  cases l with
  | nil => simp
  | cons c r =>
    by_cases h34 : c = 34
    · simp only [h34, if_true]
      intro h hn
      refine ⟨fun e => by simp at e, ?_⟩
      have h1 : (Qt.read (34 :: r)).1.length ≤ (Qt.read (34 :: r)).2.1 := by
        show (if (34 : UInt8) = 34 then Qt.rd (r.length + 1) r 1 [] else ([], 0, 2)).1.length ≤ (if (34 : UInt8) = 34 then Qt.rd (r.length + 1) r 1 [] else ([], 0, 2)).2.1
        rw [if_pos rfl]
        have := rd_small (r.length + 1) r 1 []
        simp at this; omega
      have h2 := Qt.quo_le (Qt.read (34 :: r)).1
      simp only [Lx.wt, if_true]
      omega
    · simp only [if_neg h34]
      by_cases hz : Lx.run (c :: r) = 0
      · rw [if_pos hz]; simp
      · rw [if_neg hz]
        dsimp only
        intro _ hn
        refine ⟨fun _ => ⟨fun e => ?_, fun b hb => ?_⟩, ?_⟩
        · have := congrArg List.length e
          rw [List.length_take] at this
          simp at this; omega
        · have e : (c :: r).take (Lx.run (c :: r)) = (c :: r).takeWhile Lx.bare := by
            unfold Lx.run
            exact (List.prefix_iff_eq_take.1 (List.takeWhile_prefix _)).symm
          dsimp only at hb
          rw [e] at hb
          exact tw_all _ _ _ hb
        · have e : Lx.wt ((c :: r).take (Lx.run (c :: r)), false, k) = (c :: r).take (Lx.run (c :: r)) := by simp [Lx.wt]
          rw [e, List.length_take]
          omega
theorem wd_fit (t : List UInt8) : ∀ (f k : Nat) (l : List (List UInt8 × Bool × Nat)), k ≤ t.length → (∀ x ∈ l, Lx.fit x) → Lx.cost l ≤ 7 * k → (∀ x ∈ (Lx.wd t f k l).1, Lx.fit x) ∧ Lx.cost (Lx.wd t f k l).1 ≤ 7 * t.length
  | 0, k, l, hk, hl, hc => by rw [Lx.wd]; exact ⟨hl, by show Lx.cost l ≤ 7 * t.length; omega⟩
  | f + 1, k, l, hk, hl, hc => by
    rw [Lx.wd]
    by_cases h0 : (Lx.read (t.drop k)).2.2.2 = 0
    · rw [if_neg (by rw [h0]; simp)]
      obtain ⟨h1, h2⟩ := lxread_fit (t.drop k) h0 k
      have h3 := (lxread_n (t.drop k)).2 h0
      rw [List.length_drop] at h3
      have hl2 : ∀ x ∈ l ++ [((Lx.read (t.drop k)).1, (Lx.read (t.drop k)).2.1, k)], Lx.fit x := by
        intro x hx
        rcases List.mem_append.1 hx with hx | hx
        · exact hl x hx
        · simp at hx; subst hx; exact h1
      have hc2 : Lx.cost (l ++ [((Lx.read (t.drop k)).1, (Lx.read (t.drop k)).2.1, k)]) ≤ 7 * (k + (Lx.read (t.drop k)).2.2.1) := by rw [cost_snoc]; omega
      by_cases he : k + (Lx.read (t.drop k)).2.2.1 = t.length
      · rw [if_pos he]; rw [he] at hc2; exact ⟨hl2, hc2⟩
      · rw [if_neg he]
        by_cases hb : t[k + (Lx.read (t.drop k)).2.2.1]? ≠ some 32
        · rw [if_pos hb]; exact ⟨by simp, by simp [Lx.cost]⟩
        · rw [if_neg hb]
          exact wd_fit t f _ _ (by omega) hl2 (by omega)
    · rw [if_pos h0]; exact ⟨by simp, by simp [Lx.cost]⟩
theorem words_fit (t : List UInt8) : (∀ x ∈ (Lx.words t).1, Lx.fit x) ∧ Lx.cost (Lx.words t).1 ≤ 7 * t.length := by
  unfold Lx.words
  by_cases h : t = []
  · rw [if_pos h]; exact ⟨by simp, by simp [Lx.cost]⟩
  · rw [if_neg h]; exact wd_fit t _ 0 [] (by omega) (by simp) (by simp [Lx.cost])
theorem wt_ge (x : List UInt8 × Bool × Nat) : x.1.length ≤ (Lx.wt x).length := by
  unfold Lx.wt
  by_cases h : x.2.1 = true
  · rw [if_pos h, Qt.quo_len]; have := Qt.flat_le x.1; omega
  · rw [if_neg h]; exact Nat.le_refl _
end Go.Proofs.YtopiiehdgknmgaaDoor
