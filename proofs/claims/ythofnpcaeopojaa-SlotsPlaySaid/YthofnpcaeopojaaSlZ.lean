/- Slots and the document's slots side by side. -/
import Derived.Test.YthofnpcaeopojaaSlTold2
import Derived.Test.YthofnpcaeopojaaSlRef3
namespace Go.Proofs.Ythofnpcaeopojaa
open Go.ChangeShapes Go.WideShapes Go.ChangeAt Go.RowKit
set_option linter.unusedSimpArgs false
set_option linter.unusedVariables false

/-- The program's slots; the document's in block X, its list no lower than lo; the call at hand in block A. -/
def YS (w0 w : World) (s g m n : Nat) (W : List Int) (M : List (Int × Int × Nat)) (c nx : Nat) (X lo : Nat) (a : Option Addr) (cp : Nat) (N : List (Int × Int)) (q : Int) : Prop :=
  SL w0 w s g m n W M c nx ∧ Blk w X [.slice a N.length cp, .int .i64 n, .int .i64 q] 27 ∧ RL w lo a N ∧ (w0.heap.size ≤ X ∧ X ≠ s ∧ X ≠ g ∧ X ≠ m) ∧ (s < lo ∧ g < lo ∧ m < lo ∧ X < lo)
section
variable {w0 w w' : World} {s g m n : Nat} {W : List Int} {M : List (Int × Int × Nat)} {c nx : Nat} {X lo : Nat} {a : Option Addr} {cp : Nat} {N : List (Int × Int)} {q : Int}
theorem SL.fresh (h : SL w0 w s g m n W M c nx) (k : Below w.heap.size w w') : SL w0 w' s g m n W M c nx := ⟨h.1.fresh k, h.2⟩
theorem SL.other (h : SL w0 w s g m n W M c nx) {b : Nat} (k : Chg [b] w w') (h0 : w0.heap.size ≤ b) (hb : b ≠ s ∧ b ≠ g ∧ b ≠ m) : SL w0 w' s g m n W M c nx := by
  obtain ⟨⟨⟨h1, h2, h3, h4, h5⟩, h6, h7⟩, h8⟩ := h
  exact ⟨⟨⟨h1.chg k (by simp; omega), h2.chg k (by simp; omega), h3.chg k (by simp; omega), h4, h5⟩, k.onto h6 h6.size (by simp; omega), h7⟩, h8⟩
theorem YS.fresh (z : YS w0 w s g m n W M c nx X lo a cp N q) (k : Below w.heap.size w w') : YS w0 w' s g m n W M c nx X lo a cp N q :=
  ⟨z.1.fresh k, z.2.1.below k z.2.1.lt, z.2.2.1.fresh k, z.2.2.2⟩
theorem YS.doc (z : YS w0 w s g m n W M c nx X lo a cp N q) {lo9 : Nat} {a9 : Option Addr} {N9 : List (Int × Int)} (r : RL w lo9 a9 N9) (hlo : lo ≤ lo9) (n9 : Nat) (hn9 : N9.length = n9) (c9 : Nat) (q9 : Int) :
    YS w0 (((w.setCell ⟨X, 0, none⟩ (.slice a9 n9 c9)).setCell ⟨X, 1, none⟩ (.int .i64 n)).setCell ⟨X, 2, none⟩ (.int .i64 q9)) s g m n W M c nx X lo a9 c9 N9 q9 := by
  subst hn9
  obtain ⟨z1, z2, z3, z4, z5⟩ := z
  have k := (((Chg.refl [X] w).set (b := X) (Or.inl (by simp)) 0 (.slice a9 N9.length c9)).set (b := X) (Or.inl (by simp)) 1 (.int .i64 n)).set (b := X) (Or.inl (by simp)) 2 (.int .i64 q9)
  exact ⟨z1.other k z4.1 z4.2, ((z2.set 0 _).set 1 _).set 2 _, (r.down hlo).chg k (by simp; omega), z4, z5⟩
theorem YS.next (z : YS w0 w s g m n W M c nx X lo a cp N q) (q9 : Int) : YS w0 (w.setCell ⟨X, 2, none⟩ (.int .i64 q9)) s g m n W M c nx X lo a cp N q9 := by
  obtain ⟨z1, z2, z3, z4, z5⟩ := z
  have k := (Chg.refl [X] w).set (b := X) (Or.inl (by simp)) 2 (.int .i64 q9)
  exact ⟨z1.other k z4.1 z4.2, z2.set 2 _, z3.chg k (by simp; omega), z4, z5⟩
theorem YS.prog (z : YS w0 w s g m n W M c nx X lo a cp N q) {W' : List Int} {M' : List (Int × Int × Nat)} {c' nx' : Nat} (h : SL w0 w' s g m n W' M' c' nx') (k : Chg [s, g, m] w w') : YS w0 w' s g m n W' M' c' nx' X lo a cp N q := by
  obtain ⟨z1, z2, z3, z4, z5⟩ := z
  exact ⟨h, z2.chg k (by simp; omega), z3.chg k (by simp; omega), z4, z5⟩
theorem YS.x0 (z : YS w0 w s g m n W M c nx X lo a cp N q) : w.cell? ⟨X, 0, none⟩ = some (.slice a N.length cp) := z.2.1.cell (i := 0) rfl
theorem YS.x1 (z : YS w0 w s g m n W M c nx X lo a cp N q) : w.cell? ⟨X, 1, none⟩ = some (.int .i64 n) := z.2.1.cell (i := 1) rfl
theorem YS.x2 (z : YS w0 w s g m n W M c nx X lo a cp N q) : w.cell? ⟨X, 2, none⟩ = some (.int .i64 q) := z.2.1.cell (i := 2) rfl
theorem YS.free (z : YS w0 w s g m n W M c nx X lo a cp N q) (i : Nat) : w.frozen? ⟨X, i, none⟩ = false := z.2.1.free i
theorem YS.lts (z : YS w0 w s g m n W M c nx X lo a cp N q) : s < w.heap.size ∧ g < w.heap.size ∧ m < w.heap.size ∧ X < w.heap.size := by
  have := z.2.2.1.1
  have := z.2.2.2.2
  omega
theorem YS.start (h : SL w0 w s g m n W [] c 0) {a : Option Addr} : YS w0 (w.alloc (.cells #[.slice none 0 0, .int .i64 n, .int .i64 0] 27)) s g m n W [] c 0 w.heap.size (w.heap.size + 1) none 0 [] 0 := by
  have hb := h.1.2.1
  have l1 := h.1.1.1.lt
  have l2 := h.1.1.2.1.lt
  have l3 := h.1.1.2.2.1.lt
  have hs := hb.size
  exact ⟨h.fresh ((Below.refl _ _).alloc (Nat.le_refl _) _), Blk.newA w _ _, ⟨by simp, Or.inl rfl⟩, by omega, by omega⟩
end
theorem opn_yes {w0 w : World} {s g m n c nx j : Nat} {W : List Int} {M : List (Int × Int × Nat)} (hn : n ≤ 1024) (hnx : nx < 4096) (hj : ix W (-1) = (j : Int)) (h : SL w0 w s g m n W M c nx) :
    Calls Try.prog 10 #[.pointer (some ⟨s, 0, none⟩)] w fun e w' => e = .returned (.tuple #[.int .i64 nx, .int .i64 j, .bool true]) ∧ SL w0 w' s g m n (W.set j nx) (M ++ [((nx : Int), (j : Int), c)]) (c + 1) (nx + 1) ∧ Chg [s, g, m] w w' := by
  have hat := idxOf_at W (-1) j hj
  have hjl : j < n := by rw [← h.2.2.1]; exact (List.getElem?_eq_some_iff.1 hat).1
  refine (sl_open s g m n W M c nx j w hn (by omega) (by omega) hjl ((ix_eq _ _).trans hj) (mIdx_none fun x hx e => by have := (h.2.2.2.1 x hx).1; omega) (fun x hx => (h.2.1.2.2.1 x hx).1) h.1.1).mono ?_
  rintro e w' ⟨he, k1, k2⟩
  exact ⟨he, ⟨h.1.to (by rw [Int.natCast_add]; exact k1) k2 (three s g m), h.2.open hn hnx hat⟩, k2⟩
theorem skp {w0 w : World} {s g m n c nx : Nat} {W : List Int} {M : List (Int × Int × Nat)} (hnx : nx < 4096) (h : SL w0 w s g m n W M c nx) :
    Calls Try.prog 11 #[.pointer (some ⟨s, 0, none⟩)] w fun e w' => e = .returned (.int .i64 nx) ∧ SL w0 w' s g m n W M c (nx + 1) ∧ Chg [s, g, m] w w' := by
  refine (sl_skip s g m n W M c nx w (by omega) (by omega) h.1.1).mono ?_
  rintro e w' ⟨he, k1, k2⟩
  have k3 : Chg [s, g, m] w w' := k2.mono (by simp)
  refine ⟨he, ⟨h.1.to (by rw [Int.natCast_add]; exact k1) k3 (three s g m), ?_⟩, k3⟩
  obtain ⟨h1, h2, h3, h4, h5⟩ := h.2
  exact ⟨h1, h2, fun x hx => by obtain ⟨a1, a2⟩ := h3 x hx; exact ⟨by omega, a2⟩, h4, h5⟩
theorem cls_no {w0 w : World} {s g m n c nx : Nat} {W : List Int} {M : List (Int × Int × Nat)} (id : Int) (hi : mIdx M id = none) (h : SL w0 w s g m n W M c nx) :
    Calls Try.prog 12 #[.pointer (some ⟨s, 0, none⟩), .int .i64 id] w fun e w' => e = .returned (.bool false) ∧ w = w' := sl_close_no s g m n W M c nx id w h.1.1 hi
theorem cls_yes {w0 w : World} {s g m n c nx i j b : Nat} {W : List Int} {M : List (Int × Int × Nat)} (id : Int) (hn : n ≤ 1024) (hi : mIdx M id = some (i, (j : Int))) (hb : M[i]? = some (id, (j : Int), b)) (h : SL w0 w s g m n W M c nx) :
    Calls Try.prog 12 #[.pointer (some ⟨s, 0, none⟩), .int .i64 id] w fun e w' => e = .returned (.bool true) ∧ SL w0 w' s g m n (W.set j (-1)) (M.eraseIdx i) c nx ∧ Chg [s, g, m] w w' := by
  obtain ⟨k1, k2⟩ := h.2.close hb
  refine (sl_close s g m n W M c nx id i j w hn k2 h.1.1 hi).mono ?_
  rintro e w' ⟨he, k3, k4⟩
  exact ⟨he, ⟨h.1.to k3 k4 (three s g m), k1⟩, k4⟩
/-- Where a number stands, there is its entry. -/
theorem at_idx {n : Nat} {W : List Int} {M : List (Int × Int × Nat)} {c nx i : Nat} {id v : Int} (h : SOk n W M c nx) (hi : mIdx M id = some (i, v)) : ∃ j b : Nat, v = (j : Int) ∧ M[i]? = some (id, (j : Int), b) ∧ 0 ≤ v ∧ j < W.length := by
  obtain ⟨b, hb⟩ := mIdx_some hi
  obtain ⟨_, j, hj, hw⟩ := h.2.2.1 _ (List.mem_of_getElem? hb)
  simp only at hj
  subst hj
  exact ⟨j, b, rfl, hb, by omega, (List.getElem?_eq_some_iff.1 hw).1⟩
/-- Where no slot is free, all are someone's. -/
theorem all_taken {n : Nat} {W : List Int} {M : List (Int × Int × Nat)} {c nx : Nat} (h : SOk n W M c nx) (hj : SJ n W M) (hi : ix W (-1) = -1) : ∀ j < n, 0 ≤ rWho (DM M) (j : Int) := by
  intro j hl
  refine DM_who_pos h hj j hl fun e => ?_
  have h0 := idxOf_none W (-1) hi
  have := List.count_pos_iff.2 (e ▸ getD_mem (l := W) (j := j) (by rw [h.2.1]; exact hl))
  omega
/-- Ahead of the first free slot all are someone's. -/
theorem ix_ahead : ∀ (l : List Int) (v : Int) (j : Nat), ix l v = (j : Int) → ∀ i < j, l.getD i 0 ≠ v
  | [], v, j, h, i, hi => by simp only [ix] at h; omega
  | x :: r, v, j, h, i, hi => by
    simp only [ix, beq_iff_eq] at h
    by_cases hx : x = v
    · simp [hx] at h; omega
    · simp only [hx, if_false] at h
      split at h
      · omega
      · obtain ⟨j', rfl⟩ : ∃ j', j = j' + 1 := ⟨j - 1, by omega⟩
        cases i with
        | zero => simpa using hx
        | succ i => simpa using ix_ahead r v j' (by omega) i (by omega)
theorem ahead {n : Nat} {W : List Int} {M : List (Int × Int × Nat)} {c nx j : Nat} (h : SOk n W M c nx) (hj : SJ n W M) (hi : ix W (-1) = (j : Int)) : (∀ i < j, 0 ≤ rWho (DM M) (i : Int)) ∧ rWho (DM M) (j : Int) = -1 ∧ j < n := by
  have hat := idxOf_at W (-1) j hi
  have hjl : j < n := by rw [← h.2.1]; exact (List.getElem?_eq_some_iff.1 hat).1
  refine ⟨fun i hl => DM_who_pos h hj i (by omega) (ix_ahead W (-1) j hi i hl), ?_, hjl⟩
  rw [DM_who h hj j hjl]
  simp [List.getD, hat]
end Go.Proofs.Ythofnpcaeopojaa
