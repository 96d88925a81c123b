/- The document's own answers of layer 4, second half: Find, Cut, Push; and what 'told' comes to. -/
import Derived.Test.YticdpcbmnahenaaFifoRef
namespace Go.Proofs.Yticdpcbmnahenaa
open Go.ChangeShapes Go.WideShapes Go.ChangeAt Go.RowKit
set_option linter.unusedSimpArgs false
set_option linter.unusedVariables false

theorem one_cell (w : World) (v : Value) (T : TypeId) (j : Nat) (u : Value) (hj : [v][j]? = some u) : (w.alloc (.cells #[v] T)).cell? ((⟨w.heap.size, 0, none⟩ : Addr).add j) = some u := by
  have h := Blk.newA w #[v] T
  cases j with
  | zero => simp at hj; subst hj; exact h.cell (i := 0) rfl
  | succ j => simp at hj
theorem map_snoc (A : List Nat) (n : Nat) : A.map iv ++ [iv n] = (A ++ [n]).map iv := by simp
theorem one_iv (n : Nat) : ∀ u ∈ [iv n], u.oneCell' = true := by intro u hu; simp at hu; subst hu; rfl
theorem all_iv (L : List Nat) : ∀ u ∈ L.map iv, u.oneCell' = true := by
  intro u hu
  obtain ⟨x, _, rfl⟩ := List.mem_map.1 hu
  rfl
theorem LAt.src {w : World} {g o : Nat} {L : List Nat} (h : LAt w g o L) (j : Nat) (u : Value) (hj : (L.map iv)[j]? = some u) : w.cell? ((⟨g, o, none⟩ : Addr).add j) = some u := by
  have e2 : (({ block := g, off := o, spot := none } : Addr).add j) = ⟨g, o + j, none⟩ := by simp [Addr.add]
  rw [e2]
  rw [List.getElem?_map] at hj
  have hl : j < L.length := by
    rcases Nat.lt_or_ge j L.length with h | h
    · exact h
    · rw [List.getElem?_eq_none h] at hj; cases hj
  rw [List.getElem?_eq_getElem hl] at hj
  simp at hj
  subst hj
  exact h.2 j hl
set_option maxHeartbeats 1000000 in
theorem find_any (g o c : Nat) (L : List Nat) (id : Int) (w : World) (hl : L.length ≤ 1000000) (h : LAt w g o L) :
    Calls Try.prog 47 #[.slice (some ⟨g, o, none⟩) L.length c, .int .i64 id] w fun e w' => e = .returned (.int .i64 (plc L id)) ∧ w = w' := by
  have H := Lib.hid h
  obtain ⟨n, hn⟩ : ∃ n, L.length = n := ⟨_, rfl⟩
  have HN := Lib.hid hn
  rw [hn]
  rw [hn] at hl
  clear h hn
  go_enter Try.func47, Try.ntmps47
  go_wp2
  go_loop [5] (fun i => ∃ k : Nat, i = .int .i64 k ∧ k ≤ n ∧ Hid (∀ j (hj : j < L.length), j < k → (L[j] : Int) ≠ id)) (fun i => n - (intOf i).toNat)
  case atStart => exact ⟨0, rfl, by omega, fun j _ h => absurd h (by omega)⟩
  case round =>
    obtain ⟨k, rfl, hk, HJ⟩ := hrel
    by_cases hkn : k < n
    · have i1 : (k : Int) < (n : Int) := by omega
      have i0 : (0 : Int) ≤ (k : Int) := by omega
      have hkl : k < L.length := by rw [HN.out]; exact hkn
      obtain ⟨y, hy⟩ : ∃ y, L[k] = y := ⟨_, rfl⟩
      have d1 := H.out.2 k hkl
      rw [hy] at d1
      by_cases e : (y : Int) = id
      · subst e
        have HV : Hid ((k : Int) = plc L (y : Int)) := by
          have hm : y ∈ L := by rw [← hy]; exact List.getElem_mem hkl
          unfold Hid plc
          rw [isIn_nat, Int.toNat_natCast]
          simp only [hm, decide_true, if_true]
          have h1 := List.idxOf_lt_length_of_mem hm
          have h2 : L[L.idxOf y] = y := by simp
          have h3 : ¬ L.idxOf y < k := fun hh => HJ.out _ h1 hh (by rw [h2])
          have h4 : ¬ k < L.idxOf y := fun hh => by
            have := List.not_of_lt_findIdx (p := (· == y)) (xs := L) (show k < L.idxOf y from hh)
            simp [hy] at this
          omega
        clear hy
        go_wp2
        go_ret
        exact ⟨ret_i64 HV.out, rfl⟩
      · have e3 : ((y : Int) == id) = false := by simpa using e
        have HJ2 : Hid (∀ j (hj : j < L.length), j < k + 1 → (L[j] : Int) ≠ id) := fun j hj hjk => by
          by_cases h : j < k
          · exact HJ.out j hj h
          · have : j = k := by omega
            subst this
            rw [hy]; exact e
        clear hy
        go_wp2
        go_round
        case rel => exact ⟨k + 1, by go_num, by omega, HJ2⟩
        case measure => simp [intOf]; omega
    · have i1 : ¬ (k : Int) < (n : Int) := by omega
      have HV : Hid ((-1 : Int) = plc L id) := by
        unfold Hid plc
        have hf : isIn L id = false := by
          unfold isIn
          rw [decide_eq_false_iff_not]
          rintro ⟨h1, h2⟩
          obtain ⟨j, hj, hjj⟩ := List.getElem_of_mem h2
          exact HJ.out j hj (by have := HN.out; omega) (by rw [hjj]; omega)
        rw [hf]
        rfl
      go_wp2
      go_ret
      exact ⟨ret_i64 HV.out, rfl⟩
/-- A list without a number. -/
def sans (L : List Nat) (id : Int) : List Nat := L.filter fun (x : Nat) => decide ((x : Int) ≠ id)
theorem sans_take (L : List Nat) (id : Int) (k : Nat) (hk : k < L.length) : sans (L.take (k + 1)) id = if (L[k] : Int) = id then sans (L.take k) id else sans (L.take k) id ++ [L[k]] := by
  unfold sans
  rw [List.take_succ_eq_append_getElem hk, List.filter_append]
  by_cases h : (L[k] : Int) = id <;> simp [h]
theorem sans_le (L : List Nat) (id : Int) : (sans L id).length ≤ L.length := List.length_filter_le _ _
theorem sans_nat (L : List Nat) (x : Nat) (hn : L.Nodup) : sans L (x : Int) = L.erase x := by
  rw [hn.erase_eq_filter]
  unfold sans
  congr 1
  funext y
  by_cases h : y = x
  · subst h; simp
  · have : ¬ (y : Int) = (x : Int) := by omega
    simp [h, this]
theorem sans_no (L : List Nat) (id : Int) (h : isIn L id = false) : sans L id = L := by
  unfold sans
  rw [List.filter_eq_self]
  intro y hy
  rw [decide_eq_true_eq]
  intro e
  unfold isIn at h
  rw [decide_eq_false_iff_not] at h
  exact h ⟨by omega, by have : id.toNat = y := by omega
                        rw [this]; exact hy⟩
set_option maxRecDepth 20000 in
set_option maxHeartbeats 2000000 in
theorem cutl_any (g o c : Nat) (L : List Nat) (id : Int) (w : World) (hl : L.length ≤ 100000) (h : LAt w g o L) :
    Calls Try.prog 40 #[.slice (some ⟨g, o, none⟩) L.length c, .int .i64 id] w fun e w' => ∃ g' c', e = .returned (.slice (some ⟨g', 0, none⟩) (sans L id).length c') ∧ Rw w' g' c' ((sans L id).map iv) 3 ∧ w.heap.size ≤ g' ∧ Below w.heap.size w w' := by
  have H := Lib.hid h
  obtain ⟨n, hn⟩ : ∃ n, L.length = n := ⟨_, rfl⟩
  have HN := Lib.hid hn
  rw [hn]
  rw [hn] at hl
  clear h hn
  go_enter Try.func40, Try.ntmps40
  go_wp2
  go_loopw [5, 6] (fun v i wr => ∃ (k g' c' : Nat) (O : List Nat), v = .slice (some ⟨g', 0, none⟩) O.length c' ∧ i = .int .i64 k ∧ k ≤ n ∧ Hid (O = sans (L.take k) id) ∧ Hid (Rw wr g' c' (O.map iv) 3 ∧ w.heap.size ≤ g' ∧ Below w.heap.size w wr)) (fun _ i _ => n - (intOf i).toNat)
  case atStart => exact ⟨0, _, 0, [], rfl, rfl, by omega, rfl, Rw.empty w 3, by omega, (Below.refl _ _).alloc (Nat.le_refl _) _⟩
  case round =>
    obtain ⟨k, g', c', O, rfl, rfl, hk, HO, HW⟩ := hrel
    have hol : O.length ≤ k := by
      rw [HO.out]
      have := sans_le (L.take k) id
      rw [List.length_take] at this
      omega
    by_cases hkn : k < n
    · have i1 : (k : Int) < (n : Int) := by omega
      have i0 : (0 : Int) ≤ (k : Int) := by omega
      have hkl : k < L.length := by rw [HN.out]; exact hkn
      obtain ⟨y, hy⟩ : ∃ y, L[k] = y := ⟨_, rfl⟩
      have d1 := (H.out.below HW.out.2.2 H.out.1).2 k hkl
      have st := sans_take L id k hkl
      rw [hy] at d1 st
      by_cases e : (y : Int) = id
      · have e3 : ((y : Int) == id) = true := by simpa using e
        rw [if_pos e] at st
        have HO2 : Hid (O = sans (L.take (k + 1)) id) := Lib.hid (by rw [st]; exact HO.out)
        clear hy st
        go_wp2
        go_roundw
        case rel => exact ⟨k + 1, g', c', O, rfl, by go_num, by omega, HO2, HW⟩
        case measure => simp [intOf]; omega
      · have e3 : ((y : Int) == id) = false := by simpa using e
        rw [if_neg e] at st
        have HO2 : Hid (O ++ [y] = sans (L.take (k + 1)) id) := Lib.hid (by rw [st, HO.out])
        clear hy st
        go_wp2_with (at_builtin; refine wpList_append_rw _ rfl (.tmp 20) (.tmp 25) 27 27 rfl 3 (.int .i64 0) 8 Try.underlying27 info3 rfl g' _ c' (O.map iv) rfl (by simp) (HW.out.1.chg ((Chg.refl [] _).alloc _) (by simp)) _ rfl 1 _ (Src.ofSlice _ Try.underlying27 ⟨_, 0, none⟩ 1 1 [iv y] rfl (one_cell _ _ _) (one_iv y)) (by omega) (by omega) ?_; intro g4 c4 w4 r1 r2 r3; rw [map_snoc] at r1; have HW4 : Hid (Rw w4 g4 c4 ((O ++ [y]).map iv) 3 ∧ w.heap.size ≤ g4 ∧ Below w.heap.size w w4) := Lib.hid (by
          obtain ⟨q1, q2, q3⟩ := HW.out
          have hs := q3.size
          rw [World.size_alloc] at r2
          exact ⟨r1, by omega, r3.onto (q3.alloc hs _) (by simp; omega) (by simp; omega)⟩); clear r1 r2 r3)
        go_roundw
        case rel => exact ⟨k + 1, g4, c4, O ++ [y], by simp, by go_num, by omega, HO2, HW4⟩
        case measure => simp [intOf]; omega
    · have i1 : ¬ (k : Int) < (n : Int) := by omega
      have HO2 : Hid (O = sans L id) := Lib.hid (by rw [HO.out, List.take_of_length_le (by rw [HN.out]; omega)])
      go_wp2
      go_ret
      rw [← HO2.out]
      exact ⟨_, _, rfl, HW.out⟩
end Go.Proofs.Yticdpcbmnahenaa
