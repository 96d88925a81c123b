/- Contracts of a ring of bytes (package ring): laying bytes behind, and letting the first ones go. -/
import Derived.Test.YtbgheljihjajdaaRing
namespace Go.Proofs.Ytbgheljihjajdaa
open Go.ChangeShapes Go.WideShapes Go.ChangeAt Go.RowKit
set_option linter.unusedSimpArgs false
set_option linter.unusedVariables false

theorem put_row (f n h m q at_ : Nat) (S G : ByteArray) (R : List Value) (hf : f < n) (hS : S.size = h) (hG : G.size = m) (hR : R.length = n) (hm : m ≤ n - h) (hhn : h < n) (hat : rix f n h = at_) (hq : q = min m (n - at_))
    (hI : ∀ i (hi : i < S.size), R[rix f n i]? = some (.int .u8 (S[i].toNat : Int))) :
    ∀ i (hi : i < (S ++ G).size), (((R.take at_ ++ bv (G.extract 0 q) ++ R.drop (at_ + q)).take 0 ++ bv ((G.extract q m).extract 0 (m - q)) ++ (R.take at_ ++ bv (G.extract 0 q) ++ R.drop (at_ + q)).drop (0 + (m - q))))[rix f n i]? = some (.int .u8 ((S ++ G)[i].toNat : Int)) := by
  have hatn : at_ < n := by rw [← hat]; unfold rix; split <;> omega
  have l1 : (bv (G.extract 0 q)).length = q := by rw [bv_length, ByteArray.size_extract]; omega
  have l2 : (bv ((G.extract q m).extract 0 (m - q))).length = m - q := by rw [bv_length, ByteArray.size_extract, ByteArray.size_extract]; omega
  have e1 : (R.take at_ ++ bv (G.extract 0 q) ++ R.drop (at_ + q)) = (R.take at_ ++ bv (G.extract 0 q) ++ R.drop (at_ + (bv (G.extract 0 q)).length)) := by rw [l1]
  have hl1 : (R.take at_ ++ bv (G.extract 0 q) ++ R.drop (at_ + q)).length = n := by rw [e1, laid_length _ _ _ (by omega)]; exact hR
  intro i hi
  have hi2 : i < h + m := by rw [ByteArray.size_append] at hi; omega
  have g1 := laid_get (R.take at_ ++ bv (G.extract 0 q) ++ R.drop (at_ + q)) (bv ((G.extract q m).extract 0 (m - q))) 0 (rix f n i) (by omega)
  have g2 := laid_get R (bv (G.extract 0 q)) at_ (rix f n i) (by omega)
  rw [l2] at g1
  rw [l1] at g2
  rw [g1, if_neg (by omega), g2]
  by_cases c : i < h
  · have hr : rix f n i + 1 ≤ at_ ∨ at_ + q ≤ rix f n i := by
      have hat' := hat
      unfold rix at hat' ⊢
      split at hat' <;> split <;> omega
    have hr2 : m - q ≤ rix f n i := by
      have hat' := hat
      unfold rix at hat' ⊢
      split at hat' <;> split <;> omega
    have hx : (S ++ G)[i] = S[i]'(by omega) := ByteArray.getElem_append_left (by omega)
    rw [if_neg (by omega), hx]
    rw [← hI i (by omega)]
    split
    · rfl
    · rw [if_neg (by omega)]
  · obtain ⟨j, rfl⟩ : ∃ j, i = h + j := ⟨i - h, by omega⟩
    have hx : (S ++ G)[h + j] = G[j]'(by omega) := by
      rw [ByteArray.getElem_append_right (by omega)]
      congr 1; omega
    rw [hx]
    by_cases d : at_ + j < n
    · have e : rix f n (h + j) = at_ + j := by rw [rix_add f n h j (by omega) hf (by omega), hat]
      have hjq : j < q := by omega
      rw [e, if_neg (by omega), if_neg (by omega), if_pos (by omega), show at_ + j - at_ = j by omega, bv_at _ j (by rw [ByteArray.size_extract]; omega), ByteArray.getElem_extract]
      simp only [Nat.zero_add]
    · have e : rix f n (h + j) = at_ + j - n := by rw [rix_wrap f n h j (by omega) hf (by omega), hat]
      rw [e, if_pos (by omega), Nat.sub_zero, bv_at _ _ (by rw [ByteArray.size_extract, ByteArray.size_extract]; omega), ByteArray.getElem_extract, ByteArray.getElem_extract]
      have e5 : q + (0 + (at_ + j - n)) = j := by omega
      simp only [e5]
theorem len_any (b g n f : Nat) (S : ByteArray) (w : World) (h : RAt w b g n f S) :
    Calls Try.prog 17 #[.pointer (some ⟨b, 0, none⟩)] w fun e w' => e = .returned (.int .i64 S.size) ∧ w = w' := by
  obtain ⟨h1, h2, h3, h4, h5, h6, R, h7, h8, h9⟩ := h
  have c2 := h6.cell (i := 2) rfl
  clear h9
  go_enter Try.func17, Try.ntmps17
  go_wp2
  go_ret
  exact ⟨rfl, rfl⟩
theorem most_any (b g n f : Nat) (S : ByteArray) (w : World) (h : RAt w b g n f S) :
    Calls Try.prog 19 #[.pointer (some ⟨b, 0, none⟩)] w fun e w' => e = .returned (.int .i64 n) ∧ w = w' := by
  obtain ⟨h1, h2, h3, h4, h5, h6, R, h7, h8, h9⟩ := h
  have c0 := h6.cell (i := 0) rfl
  clear h9
  go_enter Try.func19, Try.ntmps19
  go_wp2
  go_ret
  exact ⟨rfl, rfl⟩
theorem room_any (b g n f : Nat) (S : ByteArray) (w : World) (h : RAt w b g n f S) :
    Calls Try.prog 18 #[.pointer (some ⟨b, 0, none⟩)] w fun e w' => e = .returned (.int .i64 ((n - S.size : Nat) : Int)) ∧ w = w' := by
  have HR := Lib.hid h
  obtain ⟨h1, h2, h3, h4, h5, h6, R, h7, h8, h9⟩ := h
  have e9 : Hid (((n - S.size : Nat) : Int) = (n : Int) - (S.size : Int)) := by rw [Hid]; omega
  clear h6 h7 h8 h9
  go_enter Try.func18, Try.ntmps18
  go_wp2_with (first | (go_at_call 19; refine (most_any _ _ _ _ _ _ HR.out).mono ?_; rintro e w' ⟨rfl, rfl⟩) | (go_at_call 17; refine (len_any _ _ _ _ _ _ HR.out).mono ?_; rintro e w' ⟨rfl, rfl⟩))
  go_ret
  exact ⟨ret_i64 e9.out.symm, rfl⟩
theorem size_empty {G : ByteArray} (h : G.size = 0) : G.toList.isEmpty = true := by
  rw [← decide_eq_emptyBytes]
  simp only [decide_eq_true_eq]
  exact ByteArray.ext (Array.eq_empty_of_size_eq_zero (by simpa using h))
theorem size_full {G : ByteArray} (h : 0 < G.size) : G.toList.isEmpty = false := by
  rw [← decide_eq_emptyBytes]
  simp only [decide_eq_false_iff_not]
  intro h0
  rw [h0] at h
  simp at h
theorem append_none (S G : ByteArray) (h : G.size = 0) : S ++ G = S := by
  have : G = ByteArray.empty := ByteArray.ext (Array.eq_empty_of_size_eq_zero (by simpa using h))
  rw [this]; simp
theorem put_none (b g n f : Nat) (S s : ByteArray) (w : World) (hs : s.size ≤ 100000) (h : RAt w b g n f S) (hm : min s.size (n - S.size) = 0) :
    Calls Try.prog 12 #[.pointer (some ⟨b, 0, none⟩), .string s] w fun e w' => e = .returned (.int .i64 0) ∧ w = w' := by
  have HR := Lib.hid h
  obtain ⟨h1, h2, h3, h4, h5, h6, R, h7, h8, h9⟩ := h
  have hmi : min (s.size : Int) ((n - S.size : Nat) : Int) = 0 := by omega
  have hem : (s.extract 0 0).toList.isEmpty = true := size_empty (by simp)
  clear h6 h7 h8 h9 hm
  go_enter Try.func12, Try.ntmps12
  go_wp2_with (go_at_call 18; refine (room_any _ _ _ _ _ _ HR.out).mono ?_; rintro e w' ⟨rfl, rfl⟩)
  go_ret
  exact ⟨rfl, rfl⟩
set_option maxHeartbeats 1000000 in
theorem put_some (b g n f m : Nat) (S s : ByteArray) (w : World) (hs : s.size ≤ 100000) (h : RAt w b g n f S) (hm : min s.size (n - S.size) = m) (hm0 : 0 < m) :
    Calls Try.prog 12 #[.pointer (some ⟨b, 0, none⟩), .string s] w fun e w' => e = .returned (.int .i64 m) ∧ RAt w' b g n f (S ++ s.extract 0 m) ∧ Chg [b, g] w w' := by
  have HR := Lib.hid h
  obtain ⟨h1, h2, h3, h4, h5, h6, R, h7, h8, h9⟩ := h
  have hmi : min (s.size : Int) ((n - S.size : Nat) : Int) = (m : Int) := by omega
  have hms : m ≤ s.size := by omega
  have hmn : m ≤ n - S.size := by omega
  have i1 : (0 : Int) ≤ (m : Int) := by omega
  have i2 : (m : Int) ≤ (s.size : Int) := by omega
  obtain ⟨G, hG⟩ : ∃ G, s.extract 0 m = G := ⟨_, rfl⟩
  have hGz : G.size = m := by rw [← hG, ByteArray.size_extract]; omega
  have hge := size_full (G := G) (by omega)
  have H9 := Lib.hid h9
  have H8 := Lib.hid h8
  have H7 := Lib.hid h7
  have HM := Lib.hid hm
  have HG := Lib.hid hG
  have c0 := h6.cell (i := 0) rfl
  have c1 := h6.cell (i := 1) rfl
  have c2 := h6.cell (i := 2) rfl
  have f2 := h6.free 2
  clear h7 h8 h9 hm
  go_enter Try.func12, Try.ntmps12
  go_wp2_with (go_at_call 18; refine (room_any _ _ _ _ _ _ HR.out).mono ?_; rintro e w' ⟨rfl, rfl⟩)
  obtain ⟨at_, hat⟩ : ∃ x, rix f n S.size = x := ⟨_, rfl⟩
  have hatn : at_ < n := by rw [← hat]; unfold rix; split <;> omega
  have hrem : ((f : Int) + (S.size : Int)).tmod (n : Int) = (at_ : Int) := by
    have : ((f + S.size : Nat) : Int) = (f : Int) + (S.size : Int) := by omega
    rw [← this, ← hat, ← rix_eq f n S.size h3 h4]
    rfl
  have hrem2 : ((f : Int) + (S.size : Int)) % (n : Int) = (at_ : Int) := by
    rw [← hrem, Int.tmod_eq_emod_of_nonneg (by omega)]
  have e4 : ¬ n = 0 := by omega
  have e1 : (0 : Int) ≤ (at_ : Int) := by omega
  have e2 : (at_ : Int) ≤ (n : Int) := by omega
  have e3 : ¬ n = at_ := by omega
  have HA := Lib.hid hat
  clear hat
  go_quiet (fail)
  have hV : Hid (Blk (w.drewN nq) b [.slice (some ⟨g, 0, none⟩) n n, .int .i64 f, .int .i64 S.size] 54 ∧ Blk (w.drewN nq) g R 5 ∧ Chg [b, g] w (w.drewN nq)) := ⟨h6.drewN _, H8.out.drewN _, (Chg.refl _ _).drewN _⟩
  clear h6 c0 c1 c2 f2 H8
  revert hV
  generalize w.drewN nq = W1
  intro hV
  have c0 := hV.out.1.cell (i := 0) rfl
  have hu := Try.underlying44
  obtain ⟨q, hq⟩ : ∃ q, min m (n - at_) = q := ⟨_, rfl⟩
  have hqm : q ≤ m := by omega
  have hr1 := run_copy_text (P := Try.prog) W1 44 9 3 5 g at_ (n - at_) (n - at_) G R 5 q hu size5 hV.out.2.1 (by rw [hGz]; exact hq.symm) (by rw [H7.out]; omega)
  have HZ := Lib.hid hGz
  have HQ := Lib.hid hq
  clear hGz hq hrem hrem2
  obtain ⟨row1, hrow1⟩ : ∃ r, R.take at_ ++ bv (G.extract 0 q) ++ R.drop (at_ + q) = r := ⟨_, rfl⟩
  have hl1 : Hid (row1.length = n) := by
    have h7 := H7.out
    have hq := HQ.out
    have hx := bv_cut G 0 q (by rw [HZ.out]; omega)
    rw [Nat.zero_add] at hx
    have := laid_length R (bv (G.extract 0 q)) at_ (by omega)
    rw [hx, hrow1, h7] at this
    exact this
  rw [hrow1] at hr1
  have HR1 := Lib.hid hrow1
  clear hrow1
  go_wp2_with (with_reducible refine Lib.wpList_copy_run _ rfl (.tmp 36) (.tmp 37) 44 9 rfl _ _ rfl rfl hr1 ?_)
  have hU : Hid (Blk (W1.setRow g row1.toArray) b [.slice (some ⟨g, 0, none⟩) n n, .int .i64 f, .int .i64 S.size] 54 ∧ Blk (W1.setRow g row1.toArray) g row1 5 ∧ Chg [b, g] w (W1.setRow g row1.toArray)) :=
    ⟨hV.out.1.rowOther h5 _, hV.out.2.1.setRow, hV.out.2.2.row (Or.inl (by simp)) _⟩
  clear hr1 hV c0
  revert hU
  generalize W1.setRow g row1.toArray = W2
  intro hU
  have c0 := hU.out.1.cell (i := 0) rfl
  have hz : G.size = m := HZ.out
  have u1 : (0 : Int) ≤ (q : Int) := by omega
  have u2 : (q : Int) ≤ (m : Int) := by omega
  go_still_tail 7, (by kernel_rfl)
  change wpList _ _ _ _ _ W2.drew
  have hr2 := run_copy_text (P := Try.prog) W2.drew 44 9 3 5 g 0 n n (G.extract q m) row1 5 (m - q) hu size5 hU.out.2.1.drew (by rw [ByteArray.size_extract, hz]; omega) (by rw [hl1.out]; omega)
  refine Lib.wpList_copy_run _ rfl _ _ _ _ rfl _ _ rfl rfl hr2 ?_
  obtain ⟨row2, hrow2⟩ : ∃ r, row1.take 0 ++ bv ((G.extract q m).extract 0 (m - q)) ++ row1.drop (0 + (m - q)) = r := ⟨_, rfl⟩
  have hl2 : Hid (row2.length = n) := by
    have hx := bv_length ((G.extract q m).extract 0 (m - q))
    rw [ByteArray.size_extract, ByteArray.size_extract, hz] at hx
    have := laid_length row1 (bv ((G.extract q m).extract 0 (m - q))) 0 (by rw [hl1.out]; omega)
    rw [show (bv ((G.extract q m).extract 0 (m - q))).length = m - q by omega, hrow2, hl1.out] at this
    exact this
  have HR2 := Lib.hid hrow2
  rw [hrow2]
  have hT : Hid (Blk (W2.drew.setRow g row2.toArray) b [.slice (some ⟨g, 0, none⟩) n n, .int .i64 f, .int .i64 S.size] 54 ∧ Blk (W2.drew.setRow g row2.toArray) g row2 5 ∧ Chg [b, g] w (W2.drew.setRow g row2.toArray)) :=
    ⟨hU.out.1.drew.rowOther h5 _, hU.out.2.1.drew.setRow, hU.out.2.2.drew.row (Or.inl (by simp)) _⟩
  clear hr2 hU c0 hrow2
  revert hT
  generalize W2.drew.setRow g row2.toArray = W3
  intro hT
  have c2 := hT.out.1.cell (i := 2) rfl
  have f2 := hT.out.1.free 2
  go_wp2
  go_ret
  refine ⟨rfl, ?_, hT.out.2.2.set (Or.inl (by simp)) _ _⟩
  have hbk := hT.out.1.set 2 (.int .i64 ((S.size : Int) + (m : Int)))
  have hsz : (S ++ s.extract 0 m).size = S.size + m := by rw [ByteArray.size_append, HG.out, hz]
  refine ⟨h1, h2, h3, by rw [hsz]; omega, h5, ?_, row2, hl2.out, hT.out.2.1.other (Ne.symm h5) _ _, ?_⟩
  · rw [hsz, show ((S.size + m : Nat) : Int) = (S.size : Int) + (m : Int) by omega]
    exact hbk
  · rw [HG.out]
    have := put_row f n S.size m q at_ S G R h3 rfl hz H7.out hmn (by omega) HA.out HQ.out.symm H9.out
    rw [HR1.out, HR2.out] at this
    exact this
end Go.Proofs.Ytbgheljihjajdaa
