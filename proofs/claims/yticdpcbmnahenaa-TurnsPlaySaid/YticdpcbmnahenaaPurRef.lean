/- The document's own answer for purses (package reparteeref26): lists of who has what; and how they tell the same as purses. -/
import Derived.Test.YticdpcbmnahenaaPur
import Derived.Test.YticdpcbmnahenaaRn
import Derived.Test.YticdpcbmnahenaaClass
import Derived.Deep.CutRange
import Derived.Deep.CutBlock
import Derived.Deep.LoopGhost
namespace Go.Proofs.Yticdpcbmnahenaa
open Go.ChangeShapes Go.WideShapes Go.ChangeAt Go.RowKit
set_option linter.unusedSimpArgs false
set_option linter.unusedVariables false

/-- A list of pairs as cells. -/
def prs : List (Int × Int) → List Value
  | [] => []
  | x :: M => pv x.1 :: pv x.2 :: prs M
theorem prs_length : ∀ M, (prs M).length = M.length * 2
  | [] => rfl
  | x :: M => by simp [prs, prs_length M]; omega
theorem prs_append : ∀ M N, prs (M ++ N) = prs M ++ prs N
  | [], N => rfl
  | x :: M, N => by simp [prs, prs_append M N]
theorem prs_fst : ∀ (M : List (Int × Int)) (j : Nat) (x : Int × Int), M[j]? = some x → (prs M)[j * 2]? = some (pv x.1)
  | [], j, x, h => by simp at h
  | y :: M, 0, x, h => by simp at h; subst h; rfl
  | y :: M, j + 1, x, h => by
    rw [show (j + 1) * 2 = j * 2 + 1 + 1 by omega]
    simpa [prs] using prs_fst M j x (by simpa using h)
theorem prs_snd : ∀ (M : List (Int × Int)) (j : Nat) (x : Int × Int), M[j]? = some x → (prs M)[j * 2 + 1]? = some (pv x.2)
  | [], j, x, h => by simp at h
  | y :: M, 0, x, h => by simp at h; subst h; rfl
  | y :: M, j + 1, x, h => by
    rw [show (j + 1) * 2 + 1 = j * 2 + 1 + 1 + 1 by omega]
    simpa [prs] using prs_snd M j x (by simpa using h)
/-- The pairs stand in memory, no lower than lo. -/
def RL (w : World) (lo : Nat) (a : Option Addr) (M : List (Int × Int)) : Prop :=
  lo ≤ w.heap.size ∧ (M = [] ∨ ∃ g, a = some ⟨g, 0, none⟩ ∧ lo ≤ g ∧ g < w.heap.size ∧ ∀ j x, M[j]? = some x → w.cell? ⟨g, j * 2, none⟩ = some (pv x.1) ∧ w.cell? ⟨g, j * 2 + 1, none⟩ = some (pv x.2))
theorem RL.chg {w w' : World} {lo : Nat} {a : Option Addr} {M : List (Int × Int)} (h : RL w lo a M) {l : List Nat} (k : Chg l w w') (hl : ∀ x ∈ l, x < lo) : RL w' lo a M := by
  obtain ⟨h1, h2⟩ := h
  refine ⟨Nat.le_trans h1 k.size, ?_⟩
  rcases h2 with h2 | ⟨g, e, h3, h4, h5⟩
  · exact Or.inl h2
  · refine Or.inr ⟨g, e, h3, Nat.lt_of_lt_of_le h4 k.size, fun j x hx => ?_⟩
    obtain ⟨c1, c2⟩ := h5 j x hx
    have hn : g ∉ l := fun hm => absurd (hl g hm) (by omega)
    exact ⟨by rw [k.cell h4 hn]; exact c1, by rw [k.cell h4 hn]; exact c2⟩
theorem RL.fresh {w w' : World} {lo : Nat} {a : Option Addr} {M : List (Int × Int)} (h : RL w lo a M) (k : Below w.heap.size w w') : RL w' lo a M := h.chg (Chg.of_fresh k (l := [])) (by simp)
theorem RL.down {w : World} {lo lo' : Nat} {a : Option Addr} {M : List (Int × Int)} (h : RL w lo a M) (hl : lo' ≤ lo) : RL w lo' a M := by
  obtain ⟨h1, h2⟩ := h
  refine ⟨by omega, ?_⟩
  rcases h2 with h2 | ⟨g, e, h3, h4⟩
  · exact Or.inl h2
  · exact Or.inr ⟨g, e, by omega, h4⟩
theorem RL.cells {w : World} {lo : Nat} {a : Option Addr} {M : List (Int × Int)} (h : RL w lo a M) {j : Nat} (hj : j < M.length) : ∃ g, a = some ⟨g, 0, none⟩ ∧ w.cell? ⟨g, j * 2, none⟩ = some (.int .i64 M[j].1) ∧ w.cell? ⟨g, j * 2 + 1, none⟩ = some (.int .i64 M[j].2) ∧ g < w.heap.size := by
  rcases h.2 with h2 | ⟨g, e, h3, h4, h5⟩
  · subst h2; simp at hj
  · obtain ⟨c1, c2⟩ := h5 j _ (List.getElem?_eq_getElem hj)
    exact ⟨g, e, c1, c2, h4⟩
theorem RL.of_rn {w : World} {g cap lo : Nat} {M : List (Int × Int)} {T : TypeId} (h : Rn w g cap 2 (prs M) T) (hg : lo ≤ g) : RL w lo (some ⟨g, 0, none⟩) M := by
  have := h.lt
  exact ⟨by omega, Or.inr ⟨g, rfl, hg, h.lt, fun j x hx => ⟨h.cell (prs_fst M j x hx), h.cell (prs_snd M j x hx)⟩⟩⟩
/-- What one has, of a list. -/
def lHas : List (Int × Int) → Int → Int
  | [], _ => 0
  | x :: M, id => if x.1 = id then x.2 else lHas M id
/-- The list without one. -/
def lCut (M : List (Int × Int)) (id : Int) : List (Int × Int) := M.filter fun x => decide (x.1 ≠ id)
def clampI (x a b : Int) : Int := if x < a then a else if b < x then b else x
/-- The list of which one has so much. -/
def lSet (n : Int) (M : List (Int × Int)) (id v : Int) : List (Int × Int) := if 0 ≤ id ∧ id < n then lCut M id ++ [(id, clampI v 0 2000000000)] else lCut M id
theorem lHas_append_cut (M : List (Int × Int)) (id v k : Int) : lHas (lCut M id ++ [(id, v)]) k = if k = id then v else lHas M k := by
  induction M with
  | nil =>
    by_cases h : k = id
    · simp [lCut, lHas, h]
    · have : ¬ id = k := fun e => h e.symm
      simp [lCut, lHas, h, this]
  | cons x M ih =>
    by_cases hx : x.1 = id
    · have e : lCut (x :: M) id = lCut M id := by simp [lCut, hx]
      rw [e, ih]
      by_cases h : k = id
      · rw [if_pos h, if_pos h]
      · rw [if_neg h, if_neg h]
        have : ¬ x.1 = k := fun e => h (by rw [← e]; exact hx)
        simp [lHas, this]
    · have e : lCut (x :: M) id = x :: lCut M id := by simp [lCut, hx]
      rw [e, List.cons_append]
      by_cases h : x.1 = k
      · have : ¬ k = id := fun e => hx (h.trans e)
        simp [lHas, h, this]
      · simp only [lHas, if_neg h, ih]
/-- The list tells the same as the purses. -/
def RV (n : Nat) (M : List (Int × Int)) (V : List Int) : Prop :=
  V.length = n ∧ (∀ id, lHas M id = pHas V id) ∧ (M.map (·.1)).Nodup ∧ (∀ x ∈ M, 0 ≤ x.1 ∧ x.1 < (n : Int)) ∧ (M.map (·.2)).sum = V.sum
theorem lCut_map (M : List (Int × Int)) (id : Int) : (lCut M id).map (·.1) = (M.map (·.1)).filter fun y => decide (y ≠ id) := by
  unfold lCut
  rw [List.filter_map]
  rfl
theorem lCut_out {M : List (Int × Int)} {id : Int} (h : ∀ x ∈ M, x.1 ≠ id) : lCut M id = M := by
  unfold lCut
  rw [List.filter_eq_self]
  intro x hx
  simpa using h x hx
theorem lHas_no {M : List (Int × Int)} {id : Int} (h : ∀ x ∈ M, x.1 ≠ id) : lHas M id = 0 := by
  induction M with
  | nil => rfl
  | cons x M ih =>
    simp only [lHas, if_neg (h x (by simp))]
    exact ih fun y hy => h y (by simp [hy])
theorem lCut_sum {M : List (Int × Int)} (id : Int) (hn : (M.map (·.1)).Nodup) : ((lCut M id).map (·.2)).sum = (M.map (·.2)).sum - lHas M id := by
  induction M with
  | nil => rfl
  | cons x M ih =>
    have hn2 := List.nodup_cons.1 hn
    by_cases hx : x.1 = id
    · have e : lCut (x :: M) id = lCut M id := by simp [lCut, hx]
      have hno : ∀ y ∈ M, y.1 ≠ id := fun y hy e2 => hn2.1 (List.mem_map.2 ⟨y, hy, e2.trans hx.symm⟩)
      rw [e, lCut_out hno]
      simp only [lHas, if_pos hx, List.map_cons, List.sum_cons]
      omega
    · have e : lCut (x :: M) id = x :: lCut M id := by simp [lCut, hx]
      rw [e]
      simp only [lHas, if_neg hx, List.map_cons, List.sum_cons, ih hn2.2]
      omega
theorem sum_set : ∀ (V : List Int) (j : Nat) (v : Int), j < V.length → (V.set j v).sum = V.sum - V.getD j 0 + v
  | [], j, v, h => by simp at h
  | x :: V, 0, v, h => by simp; omega
  | x :: V, j + 1, v, h => by
    have := sum_set V j v (by simpa using h)
    simp [List.set_cons_succ, List.sum_cons, this] at *
    omega
theorem RV.set {n : Nat} {M : List (Int × Int)} {V : List Int} (h : RV n M V) (id v : Int) (hv : 0 ≤ v ∧ v ≤ 2000000000) : RV n (lSet n M id v) (pSet V id v) := by
  obtain ⟨h1, h2, h3, h4, h5⟩ := h
  by_cases hid : 0 ≤ id ∧ id < (n : Int)
  · have hc : clampI v 0 2000000000 = v := by unfold clampI; rw [if_neg (by omega), if_neg (by omega)]
    unfold lSet
    rw [if_pos hid, hc]
    refine ⟨by rw [pSet_length]; exact h1, fun k => ?_, ?_, fun x hx => ?_, ?_⟩
    · rw [lHas_append_cut]
      by_cases hk : k = id
      · rw [if_pos hk, hk, pHas_set_same (by omega)]
      · rw [if_neg hk, pHas_set_other (fun e => hk e.symm)]; exact h2 k
    · rw [List.map_append, lCut_map]
      refine List.nodup_append.2 ⟨h3.filter _, by simp, fun a ha b hb e => ?_⟩
      have := (List.mem_filter.1 ha).2
      simp at this hb
      omega
    · rcases List.mem_append.1 hx with h | h
      · exact h4 x (List.mem_filter.1 h).1
      · simp at h; subst h; exact hid
    · rw [List.map_append, List.sum_append, lCut_sum id h3, h2 id, h5]
      obtain ⟨j, rfl⟩ : ∃ j : Nat, id = (j : Int) := ⟨id.toNat, by omega⟩
      rw [pSet_nat, sum_set V j v (by omega)]
      unfold pHas
      rw [if_pos hid.1]
      simp
  · have hno : ∀ x ∈ M, x.1 ≠ id := fun x hx e => hid (by rw [← e]; exact h4 x hx)
    unfold lSet
    rw [if_neg hid, lCut_out hno, pSet_out (by omega)]
    exact ⟨h1, h2, h3, h4, h5⟩
theorem RV.nil (n : Nat) : RV n [] (List.replicate n 0) := by
  refine ⟨by simp, fun id => ?_, by simp, by simp, ?_⟩
  · by_cases h : 0 ≤ id ∧ id < (n : Int)
    · obtain ⟨j, rfl⟩ : ∃ j : Nat, id = (j : Int) := ⟨id.toNat, by omega⟩
      exact (pHas_nat (by rw [List.getElem?_replicate, if_pos (by omega)]; rfl)).symm
    · exact (pHas_out (by simp; omega)).symm
  · simp
theorem lCut_le (M : List (Int × Int)) (id : Int) : (lCut M id).length ≤ M.length := List.length_filter_le _ _
theorem lSet_le (n : Int) (M : List (Int × Int)) (id v : Int) : (lSet n M id v).length ≤ M.length + 1 := by
  have := lCut_le M id
  unfold lSet
  split
  · rw [List.length_append]; simp; omega
  · omega
theorem lCut_take (M : List (Int × Int)) (id : Int) (k : Nat) (hk : k < M.length) : lCut (M.take (k + 1)) id = if M[k].1 = id then lCut (M.take k) id else lCut (M.take k) id ++ [(M[k].1, M[k].2)] := by
  unfold lCut
  rw [List.take_succ_eq_append_getElem hk, List.filter_append]
  by_cases h : M[k].1 = id
  · rw [if_pos h]; simp [h]
  · rw [if_neg h]; simp [h]
theorem within_any (n a m : Int) (w : World) (ham : a ≤ m) : Calls Try.prog 21 #[.int .i64 n, .int .i64 a, .int .i64 m] w fun e w' => e = .returned (.int .i64 (clampI n a m)) ∧ w = w' := by
  by_cases h1 : n < a
  · go_enter Try.func21, Try.ntmps21
    go_wp2
    go_ret
    exact ⟨Pur.ret_i64 (by unfold clampI; omega), rfl⟩
  · by_cases h2 : m < n
    · go_enter Try.func21, Try.ntmps21
      go_wp2
      go_ret
      exact ⟨Pur.ret_i64 (by unfold clampI; omega), rfl⟩
    · go_enter Try.func21, Try.ntmps21
      go_wp2
      go_ret
      exact ⟨Pur.ret_i64 (by unfold clampI; omega), rfl⟩
/-- How far the look for one came: none of the first k is it. -/
def LK (M : List (Int × Int)) (id : Int) (k : Nat) : Prop := lHas M id = lHas (M.drop k) id
theorem LK.next {M : List (Int × Int)} {id : Int} {k : Nat} (h : LK M id k) (hk : k < M.length) (hne : M[k].1 ≠ id) : LK M id (k + 1) := by
  unfold LK at *
  rw [h, List.drop_eq_getElem_cons hk]
  simp only [lHas, if_neg hne]
theorem LK.hit {M : List (Int × Int)} {id : Int} {k : Nat} (h : LK M id k) (hk : k < M.length) (he : M[k].1 = id) : lHas M id = M[k].2 := by
  unfold LK at h
  rw [h, List.drop_eq_getElem_cons hk]
  simp only [lHas, if_pos he]
theorem LK.end {M : List (Int × Int)} {id : Int} (h : LK M id M.length) : lHas M id = 0 := by
  unfold LK at h
  rw [h, List.drop_length]; rfl
set_option maxHeartbeats 2000000 in
theorem ref_has (Mo q : Int) (lo : Nat) (a : Option Addr) (M : List (Int × Int)) (c : Nat) (id : Int) (w : World) (hl : M.length ≤ 1000000) (h : RL w lo a M) :
    Calls Try.prog 43 #[.agg #[.int .i64 Mo, .int .i64 q, .slice a M.length c], .int .i64 id] w fun e w' => e = .returned (.int .i64 (lHas M id)) ∧ Below w.heap.size w w' := by
  obtain ⟨n, hn⟩ : ∃ n, M.length = n := ⟨_, rfl⟩
  have HN := Lib.hid hn
  rw [hn] at hl ⊢
  clear hn
  go_enter Try.func43, Try.ntmps43
  go_upto_region 1 with fail
  have HB : Hid (RL (w.alloc (.cells #[.int .i64 Mo, .int .i64 q, .slice a n c] 30)) lo a M ∧ Blk (w.alloc (.cells #[.int .i64 Mo, .int .i64 q, .slice a n c] 30)) w.heap.size [.int .i64 Mo, .int .i64 q, .slice a n c] 30 ∧ Below w.heap.size w (w.alloc (.cells #[.int .i64 Mo, .int .i64 q, .slice a n c] 30))) :=
    Lib.hid ⟨h.fresh ((Below.refl _ _).alloc (Nat.le_refl _) _), Blk.newA w _ _, (Below.refl _ _).alloc (Nat.le_refl _) _⟩
  clear h
  revert HB
  generalize w.alloc (.cells #[.int .i64 Mo, .int .i64 q, .slice a n c] 30) = W
  intro HB
  have c2 := HB.out.2.1.cell (i := 2) rfl
  go_wp2_with fail
  go_loop [5] (fun i => ∃ k : Nat, i = .int .i64 k ∧ k ≤ n ∧ Hid (LK M id k)) (fun i => n - (intOf i).toNat)
  case atStart => exact ⟨0, rfl, by omega, Lib.hid rfl⟩
  case round =>
    obtain ⟨k, rfl, hk, HK⟩ := hrel
    by_cases hkn : k < n
    · have hkl : k < M.length := by rw [HN.out]; exact hkn
      obtain ⟨g, e, d1, d2, hg⟩ := HB.out.1.cells hkl
      subst e
      obtain ⟨y, hy⟩ : ∃ y, M[k].1 = y := ⟨_, rfl⟩
      obtain ⟨z, hz⟩ : ∃ z, M[k].2 = z := ⟨_, rfl⟩
      rw [hy] at d1
      rw [hz] at d2
      have i1 : (k : Int) < (n : Int) := by omega
      have i0 : (0 : Int) ≤ (k : Int) := by omega
      by_cases e : y = id
      · have HV : Hid (lHas M id = z) := Lib.hid (by rw [HK.out.hit hkl (hy.trans e)]; exact hz)
        subst e
        clear hy hz
        go_wp2
        go_ret
        exact ⟨Pur.ret_i64 HV.out.symm, HB.out.2.2⟩
      · have e3 : (y == id) = false := by simpa using e
        have HK2 := Lib.hid (HK.out.next hkl (by rw [hy]; exact e))
        clear hy hz
        go_wp2
        go_round
        case rel => exact ⟨k + 1, by go_num, by omega, HK2⟩
        case measure => simp [intOf]; omega
    · obtain rfl : k = n := by omega
      have HV : Hid (lHas M id = 0) := Lib.hid (by have := HK.out; rw [← HN.out] at this; exact this.end)
      go_wp2
      go_ret
      exact ⟨Pur.ret_i64 HV.out.symm, HB.out.2.2⟩
end Go.Proofs.Yticdpcbmnahenaa
