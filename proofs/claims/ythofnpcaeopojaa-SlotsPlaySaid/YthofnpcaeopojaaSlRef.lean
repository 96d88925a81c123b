/- Lists of pairs of numbers in memory; and the document's own look-ups in slots (package reparteeref28). -/
import Derived.Test.YthofnpcaeopojaaSl6
import Derived.Test.YthofnpcaeopojaaRn
import Derived.Deep.CutRange
import Derived.Deep.CutBlock
import Derived.Deep.LoopGhost
namespace Go.Proofs.Ythofnpcaeopojaa
open Go.ChangeShapes Go.WideShapes Go.ChangeAt Go.RowKit
set_option linter.unusedSimpArgs false
set_option linter.unusedVariables false

/-- A number as a cell. -/
def pv (x : Int) : Value := .int .i64 x
theorem sret_i64 {a b : Int} (h : a = b) : Ending.returned (.int .i64 a) = .returned (.int .i64 b) := by rw [h]
/-- A list of pairs as cells. -/
def prs : List (Int × Int) → List Value
  | [] => []
  | x :: M => pv x.1 :: pv x.2 :: prs M
theorem prs_length : ∀ M, (prs M).length = M.length * 2
  | [] => rfl
  | x :: M => by simp [prs, prs_length M]; omega
theorem prs_append : ∀ M N, prs (M ++ N) = prs M ++ prs N
  | [], N => rfl
  | x :: M, N => by simp [prs, prs_append M N]
theorem prs_fst : ∀ (M : List (Int × Int)) (j : Nat) (x : Int × Int), M[j]? = some x → (prs M)[j * 2]? = some (pv x.1)
  | [], j, x, h => by simp at h
  | y :: M, 0, x, h => by simp at h; subst h; rfl
  | y :: M, j + 1, x, h => by
    rw [show (j + 1) * 2 = j * 2 + 1 + 1 by omega]
    simpa [prs] using prs_fst M j x (by simpa using h)
theorem prs_snd : ∀ (M : List (Int × Int)) (j : Nat) (x : Int × Int), M[j]? = some x → (prs M)[j * 2 + 1]? = some (pv x.2)
  | [], j, x, h => by simp at h
  | y :: M, 0, x, h => by simp at h; subst h; rfl
  | y :: M, j + 1, x, h => by
    rw [show (j + 1) * 2 + 1 = j * 2 + 1 + 1 + 1 by omega]
    simpa [prs] using prs_snd M j x (by simpa using h)
/-- The pairs stand in memory, no lower than lo. -/
def RL (w : World) (lo : Nat) (a : Option Addr) (M : List (Int × Int)) : Prop :=
  lo ≤ w.heap.size ∧ (M = [] ∨ ∃ g, a = some ⟨g, 0, none⟩ ∧ lo ≤ g ∧ g < w.heap.size ∧ ∀ j x, M[j]? = some x → w.cell? ⟨g, j * 2, none⟩ = some (pv x.1) ∧ w.cell? ⟨g, j * 2 + 1, none⟩ = some (pv x.2))
theorem RL.chg {w w' : World} {lo : Nat} {a : Option Addr} {M : List (Int × Int)} (h : RL w lo a M) {l : List Nat} (k : Chg l w w') (hl : ∀ x ∈ l, x < lo) : RL w' lo a M := by
  obtain ⟨h1, h2⟩ := h
  refine ⟨Nat.le_trans h1 k.size, ?_⟩
  rcases h2 with h2 | ⟨g, e, h3, h4, h5⟩
  · exact Or.inl h2
  · refine Or.inr ⟨g, e, h3, Nat.lt_of_lt_of_le h4 k.size, fun j x hx => ?_⟩
    obtain ⟨c1, c2⟩ := h5 j x hx
    have hn : g ∉ l := fun hm => absurd (hl g hm) (by omega)
    exact ⟨by rw [k.cell h4 hn]; exact c1, by rw [k.cell h4 hn]; exact c2⟩
theorem RL.fresh {w w' : World} {lo : Nat} {a : Option Addr} {M : List (Int × Int)} (h : RL w lo a M) (k : Below w.heap.size w w') : RL w' lo a M := h.chg (Chg.of_fresh k (l := [])) (by simp)
theorem RL.down {w : World} {lo lo' : Nat} {a : Option Addr} {M : List (Int × Int)} (h : RL w lo a M) (hl : lo' ≤ lo) : RL w lo' a M := by
  obtain ⟨h1, h2⟩ := h
  refine ⟨by omega, ?_⟩
  rcases h2 with h2 | ⟨g, e, h3, h4⟩
  · exact Or.inl h2
  · exact Or.inr ⟨g, e, by omega, h4⟩
theorem RL.cells {w : World} {lo : Nat} {a : Option Addr} {M : List (Int × Int)} (h : RL w lo a M) {j : Nat} (hj : j < M.length) : ∃ g, a = some ⟨g, 0, none⟩ ∧ w.cell? ⟨g, j * 2, none⟩ = some (.int .i64 M[j].1) ∧ w.cell? ⟨g, j * 2 + 1, none⟩ = some (.int .i64 M[j].2) ∧ g < w.heap.size := by
  rcases h.2 with h2 | ⟨g, e, h3, h4, h5⟩
  · subst h2; simp at hj
  · obtain ⟨c1, c2⟩ := h5 j _ (List.getElem?_eq_getElem hj)
    exact ⟨g, e, c1, c2, h4⟩
theorem RL.of_rn {w : World} {g cap lo : Nat} {M : List (Int × Int)} {T : TypeId} (h : Rn w g cap 2 (prs M) T) (hg : lo ≤ g) : RL w lo (some ⟨g, 0, none⟩) M := by
  have := h.lt
  exact ⟨by omega, Or.inr ⟨g, rfl, hg, h.lt, fun j x hx => ⟨h.cell (prs_fst M j x hx), h.cell (prs_snd M j x hx)⟩⟩⟩
theorem two_cell (w : World) (y z : Int) (T : TypeId) (j : Nat) (u : Value) (hj : [pv y, pv z][j]? = some u) : (w.alloc (.cells #[.int .i64 y, .int .i64 z] T)).cell? ((⟨w.heap.size, 0, none⟩ : Addr).add j) = some u := by
  have h := Blk.newA w #[.int .i64 y, .int .i64 z] T
  cases j with
  | zero => simp at hj; subst hj; exact h.cell (i := 0) rfl
  | succ j =>
    cases j with
    | zero => simp at hj; subst hj; exact h.cell (i := 1) rfl
    | succ j => simp at hj
theorem two_one (y z : Int) : ∀ u ∈ [pv y, pv z], u.oneCell' = true := by
  intro u hu
  simp at hu
  rcases hu with rfl | rfl <;> rfl
/-- The document's answer: who is in a slot. -/
def rWho : List (Int × Int) → Int → Int
  | [], _ => -1
  | x :: M, k => if x.2 = k then x.1 else rWho M k
/-- How far the look came: none of the first j is it. -/
def WK (M : List (Int × Int)) (k : Int) (j : Nat) : Prop := rWho M k = rWho (M.drop j) k
theorem WK.next {M : List (Int × Int)} {k : Int} {j : Nat} (h : WK M k j) (hj : j < M.length) (hne : M[j].2 ≠ k) : WK M k (j + 1) := by
  unfold WK at *
  rw [h, List.drop_eq_getElem_cons hj]
  simp only [rWho, if_neg hne]
theorem WK.hit {M : List (Int × Int)} {k : Int} {j : Nat} (h : WK M k j) (hj : j < M.length) (he : M[j].2 = k) : rWho M k = M[j].1 := by
  unfold WK at h
  rw [h, List.drop_eq_getElem_cons hj]
  simp only [rWho, if_pos he]
theorem WK.end {M : List (Int × Int)} {k : Int} (h : WK M k M.length) : rWho M k = -1 := by
  unfold WK at h
  rw [h, List.drop_length]; rfl
set_option maxHeartbeats 2000000 in
theorem ref_who (Mo q : Int) (lo : Nat) (a : Option Addr) (M : List (Int × Int)) (c : Nat) (id : Int) (w : World) (hl : M.length ≤ 1000000) (h : RL w lo a M) :
    Calls Try.prog 24 #[.agg #[.slice a M.length c, .int .i64 Mo, .int .i64 q], .int .i64 id] w fun e w' => e = .returned (.int .i64 (rWho M id)) ∧ Below w.heap.size w w' := by
  obtain ⟨n, hn⟩ : ∃ n, M.length = n := ⟨_, rfl⟩
  have HN := Lib.hid hn
  rw [hn] at hl ⊢
  clear hn
  go_enter Try.func24, Try.ntmps24
  go_upto_region 1 with fail
  have HB : Hid (RL (w.alloc (.cells #[.slice a n c, .int .i64 Mo, .int .i64 q] 27)) lo a M ∧ Blk (w.alloc (.cells #[.slice a n c, .int .i64 Mo, .int .i64 q] 27)) w.heap.size [.slice a n c, .int .i64 Mo, .int .i64 q] 27 ∧ Below w.heap.size w (w.alloc (.cells #[.slice a n c, .int .i64 Mo, .int .i64 q] 27))) :=
    Lib.hid ⟨h.fresh ((Below.refl _ _).alloc (Nat.le_refl _) _), Blk.newA w _ _, (Below.refl _ _).alloc (Nat.le_refl _) _⟩
  clear h
  revert HB
  generalize w.alloc (.cells #[.slice a n c, .int .i64 Mo, .int .i64 q] 27) = W
  intro HB
  have c2 := HB.out.2.1.cell (i := 0) rfl
  go_wp2_with fail
  go_loop [5] (fun i => ∃ k : Nat, i = .int .i64 k ∧ k ≤ n ∧ Hid (WK M id k)) (fun i => n - (intOf i).toNat)
  case atStart => exact ⟨0, rfl, by omega, Lib.hid rfl⟩
  case round =>
    obtain ⟨k, rfl, hk, HK⟩ := hrel
    by_cases hkn : k < n
    · have hkl : k < M.length := by rw [HN.out]; exact hkn
      obtain ⟨g, e, d1, d2, hg⟩ := HB.out.1.cells hkl
      subst e
      obtain ⟨y, hy⟩ : ∃ y, M[k].1 = y := ⟨_, rfl⟩
      obtain ⟨z, hz⟩ : ∃ z, M[k].2 = z := ⟨_, rfl⟩
      rw [hy] at d1
      rw [hz] at d2
      have i1 : (k : Int) < (n : Int) := by omega
      have i0 : (0 : Int) ≤ (k : Int) := by omega
      by_cases e : z = id
      · have HV : Hid (rWho M id = y) := Lib.hid (by rw [HK.out.hit hkl (hz.trans e)]; exact hy)
        subst e
        clear hy hz
        go_wp2
        go_ret
        exact ⟨sret_i64 HV.out.symm, HB.out.2.2⟩
      · have e3 : (z == id) = false := by simpa using e
        have HK2 := Lib.hid (HK.out.next hkl (by rw [hz]; exact e))
        clear hy hz
        go_wp2
        go_round
        case rel => exact ⟨k + 1, by go_num, by omega, HK2⟩
        case measure => simp [intOf]; omega
    · obtain rfl : k = n := by omega
      have HV : Hid (rWho M id = -1) := Lib.hid (by have := HK.out; rw [← HN.out] at this; exact this.end)
      go_wp2
      go_ret
      exact ⟨sret_i64 HV.out.symm, HB.out.2.2⟩
/-- The document's answer: one's slot. -/
def rSlot : List (Int × Int) → Int → Int
  | [], _ => -1
  | x :: M, k => if x.1 = k then x.2 else rSlot M k
/-- How far the look came: none of the first j is it. -/
def SK (M : List (Int × Int)) (k : Int) (j : Nat) : Prop := rSlot M k = rSlot (M.drop j) k
theorem SK.next {M : List (Int × Int)} {k : Int} {j : Nat} (h : SK M k j) (hj : j < M.length) (hne : M[j].1 ≠ k) : SK M k (j + 1) := by
  unfold SK at *
  rw [h, List.drop_eq_getElem_cons hj]
  simp only [rSlot, if_neg hne]
theorem SK.hit {M : List (Int × Int)} {k : Int} {j : Nat} (h : SK M k j) (hj : j < M.length) (he : M[j].1 = k) : rSlot M k = M[j].2 := by
  unfold SK at h
  rw [h, List.drop_eq_getElem_cons hj]
  simp only [rSlot, if_pos he]
theorem SK.end {M : List (Int × Int)} {k : Int} (h : SK M k M.length) : rSlot M k = -1 := by
  unfold SK at h
  rw [h, List.drop_length]; rfl
set_option maxHeartbeats 2000000 in
theorem ref_slot (Mo q : Int) (lo : Nat) (a : Option Addr) (M : List (Int × Int)) (c : Nat) (id : Int) (w : World) (hl : M.length ≤ 1000000) (h : RL w lo a M) :
    Calls Try.prog 13 #[.agg #[.slice a M.length c, .int .i64 Mo, .int .i64 q], .int .i64 id] w fun e w' => e = .returned (.int .i64 (rSlot M id)) ∧ Below w.heap.size w w' := by
  obtain ⟨n, hn⟩ : ∃ n, M.length = n := ⟨_, rfl⟩
  have HN := Lib.hid hn
  rw [hn] at hl ⊢
  clear hn
  go_enter Try.func13, Try.ntmps13
  go_upto_region 1 with fail
  have HB : Hid (RL (w.alloc (.cells #[.slice a n c, .int .i64 Mo, .int .i64 q] 27)) lo a M ∧ Blk (w.alloc (.cells #[.slice a n c, .int .i64 Mo, .int .i64 q] 27)) w.heap.size [.slice a n c, .int .i64 Mo, .int .i64 q] 27 ∧ Below w.heap.size w (w.alloc (.cells #[.slice a n c, .int .i64 Mo, .int .i64 q] 27))) :=
    Lib.hid ⟨h.fresh ((Below.refl _ _).alloc (Nat.le_refl _) _), Blk.newA w _ _, (Below.refl _ _).alloc (Nat.le_refl _) _⟩
  clear h
  revert HB
  generalize w.alloc (.cells #[.slice a n c, .int .i64 Mo, .int .i64 q] 27) = W
  intro HB
  have c2 := HB.out.2.1.cell (i := 0) rfl
  go_wp2_with fail
  go_loop [5] (fun i => ∃ k : Nat, i = .int .i64 k ∧ k ≤ n ∧ Hid (SK M id k)) (fun i => n - (intOf i).toNat)
  case atStart => exact ⟨0, rfl, by omega, Lib.hid rfl⟩
  case round =>
    obtain ⟨k, rfl, hk, HK⟩ := hrel
    by_cases hkn : k < n
    · have hkl : k < M.length := by rw [HN.out]; exact hkn
      obtain ⟨g, e, d1, d2, hg⟩ := HB.out.1.cells hkl
      subst e
      obtain ⟨y, hy⟩ : ∃ y, M[k].1 = y := ⟨_, rfl⟩
      obtain ⟨z, hz⟩ : ∃ z, M[k].2 = z := ⟨_, rfl⟩
      rw [hy] at d1
      rw [hz] at d2
      have i1 : (k : Int) < (n : Int) := by omega
      have i0 : (0 : Int) ≤ (k : Int) := by omega
      by_cases e : y = id
      · have HV : Hid (rSlot M id = z) := Lib.hid (by rw [HK.out.hit hkl (hy.trans e)]; exact hz)
        subst e
        clear hy hz
        go_wp2
        go_ret
        exact ⟨sret_i64 HV.out.symm, HB.out.2.2⟩
      · have e3 : (y == id) = false := by simpa using e
        have HK2 := Lib.hid (HK.out.next hkl (by rw [hy]; exact e))
        clear hy hz
        go_wp2
        go_round
        case rel => exact ⟨k + 1, by go_num, by omega, HK2⟩
        case measure => simp [intOf]; omega
    · obtain rfl : k = n := by omega
      have HV : Hid (rSlot M id = -1) := Lib.hid (by have := HK.out; rw [← HN.out] at this; exact this.end)
      go_wp2
      go_ret
      exact ⟨sret_i64 HV.out.symm, HB.out.2.2⟩
end Go.Proofs.Ythofnpcaeopojaa
