/- Contracts of slots (package slots): Who, Free; how row and map go together. -/
import Derived.Test.YthofnpcaeopojaaSl5
namespace Go.Proofs.Ythofnpcaeopojaa
open Go.ChangeShapes Go.WideShapes Go.ChangeAt Go.RowKit
set_option linter.unusedSimpArgs false
set_option linter.unusedVariables false

theorem sl_who_no (s g m n : Nat) (W : List Int) (M : List (Int × Int × Nat)) (c : Nat) (nx : Int) (j : Nat) (w : World) (hn : n ≤ 1024) (hj : j < n) (hv : W.getD j 0 = -1) (h : SA w s g m n W M c nx) :
    Calls Try.prog 17 #[.pointer (some ⟨s, 0, none⟩), .int .i64 j] w fun e w' => e = .returned (.tuple #[.int .i64 0, .bool false]) ∧ w = w' := by
  have c1 := h.1.cell (i := 1) rfl
  have wc := h.wcell j hj
  rw [hv] at wc
  have i0 : (0 : Int) ≤ (j : Int) := by omega
  have i1 : (j : Int) < (n : Int) := by omega
  clear h hv
  go_enter Try.func17, Try.ntmps17
  go_wp2
  go_ret2
  exact ⟨rfl, rfl⟩
theorem sl_who_yes (s g m n : Nat) (W : List Int) (M : List (Int × Int × Nat)) (c : Nat) (nx v : Int) (j : Nat) (w : World) (hn : n ≤ 1024) (hj : j < n) (hv : W.getD j 0 = v) (hne : (v == -1) = false) (h : SA w s g m n W M c nx) :
    Calls Try.prog 17 #[.pointer (some ⟨s, 0, none⟩), .int .i64 j] w fun e w' => e = .returned (.tuple #[.int .i64 v, .bool true]) ∧ w = w' := by
  have c1 := h.1.cell (i := 1) rfl
  have wc := h.wcell j hj
  rw [hv] at wc
  have i0 : (0 : Int) ≤ (j : Int) := by omega
  have i1 : (j : Int) < (n : Int) := by omega
  clear h hv
  go_enter Try.func17, Try.ntmps17
  go_wp2
  go_ret2
  exact ⟨rfl, rfl⟩
theorem sl_free (s g m n : Nat) (W : List Int) (M : List (Int × Int × Nat)) (c : Nat) (nx : Int) (w : World) (hn : n ≤ 1024) (hM : M.length ≤ 1024) (h : SA w s g m n W M c nx) :
    Calls Try.prog 20 #[.pointer (some ⟨s, 0, none⟩)] w fun e w' => e = .returned (.int .i64 ((n : Int) - (M.length : Int))) ∧ ∃ q, w' = w.drewN q := by
  have c1 := h.1.cell (i := 1) rfl
  have c0 := h.1.cell (i := 0) rfl
  have hl : ∀ q ty, (Builtin.len_ #[51] ty #[.map (some m)]).run Try.prog (w.drewN q) = .ok (.int .i64 M.length) (w.drewN q) := fun q ty => run_mlen Try.underlying51 (show MpB (w.drewN q) m M c from h.2.2.1) ty
  obtain ⟨k, hk⟩ : ∃ k, M.length = k := ⟨_, rfl⟩
  rw [hk] at hl hM ⊢
  have i0 : (0 : Int) ≤ (k : Int) := by omega
  clear h hk
  go_enter Try.func20, Try.ntmps20
  go_wp2
  go_quiet (fail)
  go_wp2
  go_ret
  exact ⟨rfl, _, rfl⟩
/-- The row and the map say the same. -/
def SOk (n : Nat) (W : List Int) (M : List (Int × Int × Nat)) (c nx : Nat) : Prop :=
  MOk M c ∧ W.length = n ∧ (∀ x ∈ M, x.1 < nx ∧ ∃ j : Nat, x.2.1 = (j : Int) ∧ W[j]? = some x.1) ∧ (∀ v ∈ W, v = -1 ∨ 0 ≤ v) ∧ M.length + W.count (-1) = n
theorem mIdx_some {k : Int} {i : Nat} {v : Int} : ∀ {M : List (Int × Int × Nat)}, mIdx M k = some (i, v) → ∃ b, M[i]? = some (k, v, b)
  | x :: r, h => by
    rw [mIdx] at h
    by_cases hx : x.1 = k
    · rw [if_pos hx] at h
      have := Option.some.inj h
      obtain ⟨rfl, rfl⟩ := Prod.mk.inj this
      exact ⟨x.2.2, by rw [← hx]; rfl⟩
    · rw [if_neg hx] at h
      cases hr : mIdx r k with
      | none => rw [hr] at h; cases h
      | some p =>
        rw [hr] at h
        have := Option.some.inj h
        obtain ⟨rfl, rfl⟩ := Prod.mk.inj this
        obtain ⟨b, hb⟩ := mIdx_some (i := p.1) (v := p.2) (show mIdx r k = some (p.1, p.2) from hr)
        exact ⟨b, by simpa using hb⟩
theorem SOk.new (n : Nat) : SOk n (List.replicate n (-1)) [] 0 0 := by
  refine ⟨⟨List.Pairwise.nil, List.Pairwise.nil, by simp, by simp⟩, by simp, by simp, fun v hv => ?_, by simp⟩
  left; exact List.eq_of_mem_replicate hv
theorem SOk.open {n : Nat} {W : List Int} {M : List (Int × Int × Nat)} {c nx j : Nat} (h : SOk n W M c nx) (hn : n ≤ 1024) (hnx : nx < 4096) (hj : W[j]? = some (-1)) : SOk n (W.set j nx) (M ++ [((nx : Int), (j : Int), c)]) (c + 1) (nx + 1) := by
  obtain ⟨⟨h1, h2, h3, h4⟩, h5, h6, h7, h8⟩ := h
  have hjl : j < W.length := (List.getElem?_eq_some_iff.1 hj).1
  have hcp : 0 < W.count (-1) := List.count_pos_iff.2 (List.mem_of_getElem? hj)
  refine ⟨⟨?_, ?_, ?_, ?_⟩, by simpa using h5, ?_, ?_, ?_⟩
  · rw [List.map_append, List.pairwise_append]
    refine ⟨h1, by simp, fun a ha b hb => ?_⟩
    obtain ⟨x, hx, rfl⟩ := List.mem_map.1 ha
    simp at hb; subst hb
    exact (h6 x hx).1
  · rw [List.map_append, List.pairwise_append]
    refine ⟨h2, by simp, fun a ha b hb => ?_⟩
    obtain ⟨x, hx, rfl⟩ := List.mem_map.1 ha
    simp at hb; subst hb
    exact (h3 x hx).1
  · intro x hx
    rw [List.mem_append] at hx
    rcases hx with hx | hx
    · have := h3 x hx; omega
    · simp at hx; subst hx; exact ⟨by simp, by simp, by simp; omega⟩
  · rw [List.length_append, List.length_singleton]; omega
  · intro x hx
    rw [List.mem_append] at hx
    rcases hx with hx | hx
    · obtain ⟨k1, i, k2, k3⟩ := h6 x hx
      refine ⟨by omega, i, k2, ?_⟩
      rw [List.getElem?_set_ne (fun e => by subst e; rw [hj] at k3; have := h3 x hx; have := Option.some.inj k3; omega)]
      exact k3
    · simp at hx; subst hx
      exact ⟨by simp; omega, j, rfl, List.getElem?_set_self hjl⟩
  · intro v hv
    rcases List.mem_or_eq_of_mem_set hv with hv | rfl
    · exact h7 v hv
    · right; omega
  · rw [List.length_append, List.length_singleton, List.count_set hjl]
    have e : W[j] = -1 := by rw [List.getElem?_eq_getElem hjl] at hj; exact Option.some.inj hj
    have e2 : ((nx : Int) == -1) = false := by rw [beq_eq_false_iff_ne]; omega
    rw [e, e2]
    simp
    omega
theorem SOk.close {n : Nat} {W : List Int} {M : List (Int × Int × Nat)} {c nx i j : Nat} {k : Int} {b : Nat} (h : SOk n W M c nx) (hi : M[i]? = some (k, (j : Int), b)) : SOk n (W.set j (-1)) (M.eraseIdx i) c nx ∧ j < n := by
  obtain ⟨⟨h1, h2, h3, h4⟩, h5, h6, h7, h8⟩ := h
  have hil : i < M.length := (List.getElem?_eq_some_iff.1 hi).1
  have hmem := List.mem_of_getElem? hi
  obtain ⟨k1, j', k2, k3⟩ := h6 _ hmem
  obtain rfl : j = j' := by simp at k2; omega
  have hjl : j < W.length := (List.getElem?_eq_some_iff.1 k3).1
  have hk0 := h3 _ hmem
  refine ⟨⟨⟨?_, ?_, fun x hx => h3 x (List.mem_of_mem_eraseIdx hx), ?_⟩, by simpa using h5, ?_, ?_, ?_⟩, by omega⟩
  · rw [← erase_map]; exact h1.sublist (List.eraseIdx_sublist _ _)
  · rw [← erase_map]; exact h2.sublist (List.eraseIdx_sublist _ _)
  · have := List.length_eraseIdx_le M i; omega
  · intro x hx
    obtain ⟨q1, l, q2, q3⟩ := h6 x (List.mem_of_mem_eraseIdx hx)
    refine ⟨q1, l, q2, ?_⟩
    rw [List.getElem?_set_ne]
    · exact q3
    · rintro rfl
      rw [k3] at q3
      have hkx : k = x.1 := Option.some.inj q3
      obtain ⟨p, hp, hpx⟩ := List.mem_eraseIdx_iff_getElem?.1 hx
      have hpl : p < M.length := (List.getElem?_eq_some_iff.1 hpx).1
      rw [List.pairwise_iff_getElem] at h1
      have e1 : M[i] = (k, (j : Int), b) := by rw [List.getElem?_eq_getElem hil] at hi; exact Option.some.inj hi
      have e2 : M[p] = x := by rw [List.getElem?_eq_getElem hpl] at hpx; exact Option.some.inj hpx
      rcases Nat.lt_or_gt_of_ne hp with hlt | hlt
      · have := h1 p i (by simpa using hpl) (by simpa using hil) hlt
        simp [e1, e2] at this; omega
      · have := h1 i p (by simpa using hil) (by simpa using hpl) hlt
        simp [e1, e2] at this; omega
  · intro v hv
    rcases List.mem_or_eq_of_mem_set hv with hv | rfl
    · exact h7 v hv
    · left; rfl
  · rw [List.length_eraseIdx_of_lt hil, List.count_set hjl]
    have e : W[j] = k := by rw [List.getElem?_eq_getElem hjl] at k3; exact Option.some.inj k3
    have e2 : (k == -1) = false := by rw [beq_eq_false_iff_ne]; simp at hk0; omega
    rw [e, e2]
    simp
    omega
end Go.Proofs.Ythofnpcaeopojaa
