/- Contracts of a ring of bytes (package ring): the rest of its methods, and what its layer's literal comes to. -/
import Derived.Test.YtbgheljihjajdaaRing2
namespace Go.Proofs.Ytbgheljihjajdaa
open Go.ChangeShapes Go.WideShapes Go.ChangeAt Go.RowKit
set_option linter.unusedSimpArgs false
set_option linter.unusedVariables false

theorem rix_rix (f n k i : Nat) (hf : f < n) (hk : k + i < n + 1) (hi : i < n) : rix (rix f n k) n i = rix f n (k + i) := by
  unfold rix
  split <;> split <;> split <;> omega
theorem rix_lt (f n k : Nat) (hf : f < n) (hk : k ≤ n) : rix f n k < n := by
  unfold rix
  split <;> omega
/-- The bytes that Peek tells. -/
def pk (S : ByteArray) (a k : Int) : ByteArray := if a < 0 ∨ (S.size : Int) ≤ a ∨ k ≤ 0 then ⟨#[]⟩ else S.extract a.toNat (a.toNat + min k.toNat (S.size - a.toNat))
theorem peek_any (b g n f : Nat) (S : ByteArray) (a k : Int) (w : World) (h : RAt w b g n f S) :
    Calls Try.prog 21 #[.pointer (some ⟨b, 0, none⟩), .int .i64 a, .int .i64 k] w fun e w' => e = .returned (.string (pk S a k)) ∧ Below w.heap.size w w' := by
  unfold pk
  by_cases hn : a < 0 ∨ (S.size : Int) ≤ a ∨ k ≤ 0
  · rw [if_pos hn]
    exact (peek_none b g n f S a k w h hn).mono fun e w' ⟨he, hw⟩ => ⟨he, by rw [← hw]; exact Below.refl _ _⟩
  · rw [if_neg hn]
    obtain ⟨j, rfl⟩ : ∃ j : Nat, a = (j : Int) := ⟨a.toNat, by omega⟩
    rw [Int.toNat_natCast]
    exact peek_some b g n f j (min k.toNat (S.size - j)) S k w h (by omega) (by omega) (by omega)
theorem at_no (b g n f : Nat) (S : ByteArray) (i : Int) (w : World) (h : RAt w b g n f S) (hi : i < 0 ∨ (S.size : Int) ≤ i) :
    Calls Try.prog 22 #[.pointer (some ⟨b, 0, none⟩), .int .i64 i] w fun e w' => e = .returned (.tuple #[.int .u8 0, .bool false]) ∧ w = w' := by
  obtain ⟨h1, h2, h3, h4, h5, h6, R, h7, h8, h9⟩ := h
  have c2 := h6.cell (i := 2) rfl
  clear h9
  by_cases a1 : i < 0
  · go_enter Try.func22, Try.ntmps22
    go_wp2
    go_ret2
    exact ⟨rfl, rfl⟩
  · have a2 : (S.size : Int) ≤ i := by omega
    go_enter Try.func22, Try.ntmps22
    go_wp2
    go_ret2
    exact ⟨rfl, rfl⟩
set_option maxHeartbeats 1000000 in
theorem at_yes (b g n f i : Nat) (S : ByteArray) (z : Int) (w : World) (h : RAt w b g n f S) (hi : i < S.size) (hz : (S[i].toNat : Int) = z) :
    Calls Try.prog 22 #[.pointer (some ⟨b, 0, none⟩), .int .i64 i] w fun e w' => e = .returned (.tuple #[.int .u8 z, .bool true]) ∧ ∃ q, w' = w.drewN q := by
  obtain ⟨h1, h2, h3, h4, h5, h6, R, h7, h8, h9⟩ := h
  have c0 := h6.cell (i := 0) rfl
  have c1 := h6.cell (i := 1) rfl
  have c2 := h6.cell (i := 2) rfl
  obtain ⟨x, hx⟩ : ∃ x, rix f n i = x := ⟨_, rfl⟩
  have c3 : w.cell? ⟨g, x, none⟩ = some (.int .u8 z) := by
    have := h9 i hi
    rw [hz, hx] at this
    exact h8.cell this
  have hxn : x < n := by rw [← hx]; exact rix_lt f n i h3 (by omega)
  have hsum : IntKind.i64.wrap ((f : Int) + (i : Int)) = (f : Int) + (i : Int) := IntWalk.i64_in _ (by omega)
  have hrem : ((f : Int) + (i : Int)).tmod (n : Int) = (x : Int) := by
    have : ((f + i : Nat) : Int) = (f : Int) + (i : Int) := by omega
    rw [← this, ← hx, ← rix_eq f n i h3 (by omega)]
    rfl
  have hrem2 : ((f : Int) + (i : Int)) % (n : Int) = (x : Int) := by
    rw [← hrem, Int.tmod_eq_emod_of_nonneg (by omega)]
  have e4 : ¬ n = 0 := by omega
  have e1 : (0 : Int) ≤ (x : Int) := by omega
  have e2 : (x : Int) < (n : Int) := by omega
  have e5 : (0 : Int) ≤ (i : Int) := by omega
  have e6 : (i : Int) < (S.size : Int) := by omega
  clear hx h9 hz
  go_enter Try.func22, Try.ntmps22
  go_wp2
  go_quiet (fail)
  go_wp2
  go_ret2
  exact ⟨rfl, _, rfl⟩
theorem drop_zero (b g n f : Nat) (S : ByteArray) (k : Int) (w : World) (h : RAt w b g n f S) (hk : min (max k 0) (S.size : Int) = 0) :
    Calls Try.prog 15 #[.pointer (some ⟨b, 0, none⟩), .int .i64 k] w fun e w' => e = .returned (.int .i64 0) ∧ w = w' := by
  have HR := Lib.hid h
  clear h
  go_enter Try.func15, Try.ntmps15
  go_wp2_with (go_at_call 17; refine (len_any _ _ _ _ _ _ HR.out).mono ?_; rintro e w' ⟨rfl, rfl⟩)
  go_ret
  exact ⟨rfl, rfl⟩
set_option maxHeartbeats 1000000 in
theorem drop_some (b g n f m : Nat) (S : ByteArray) (k : Int) (w : World) (h : RAt w b g n f S) (hk : min (max k 0) (S.size : Int) = (m : Int)) (hm : 0 < m) (hms : m ≤ S.size) :
    Calls Try.prog 15 #[.pointer (some ⟨b, 0, none⟩), .int .i64 k] w fun e w' => e = .returned (.int .i64 m) ∧ RAt w' b g n (rix f n m) (S.extract m S.size) ∧ Chg [b] w w' := by
  have HR := Lib.hid h
  obtain ⟨h1, h2, h3, h4, h5, h6, R, h7, h8, h9⟩ := h
  have c0 := h6.cell (i := 0) rfl
  have c1 := h6.cell (i := 1) rfl
  have c2 := h6.cell (i := 2) rfl
  have f1 := h6.free 1
  have f2 := h6.free 2
  obtain ⟨x, hx⟩ : ∃ x, rix f n m = x := ⟨_, rfl⟩
  have hxn : x < n := by rw [← hx]; exact rix_lt f n m h3 (by omega)
  have hsum : IntKind.i64.wrap ((f : Int) + (m : Int)) = (f : Int) + (m : Int) := IntWalk.i64_in _ (by omega)
  have hrem : ((f : Int) + (m : Int)).tmod (n : Int) = (x : Int) := by
    have : ((f + m : Nat) : Int) = (f : Int) + (m : Int) := by omega
    rw [← this, ← hx, ← rix_eq f n m h3 (by omega)]
    rfl
  have e4 : ¬ n = 0 := by omega
  have hwr : IntKind.i64.wrap (x : Int) = (x : Int) := IntWalk.i64_in _ (by omega)
  have HX := Lib.hid hx
  have H9 := Lib.hid h9
  have H8 := Lib.hid h8
  have H7 := Lib.hid h7
  clear hx h9 h8 h7
  go_enter Try.func15, Try.ntmps15
  go_wp2_with (go_at_call 17; refine (len_any _ _ _ _ _ _ HR.out).mono ?_; rintro e w' ⟨rfl, rfl⟩)
  go_still_tail 15, (by kernel_rfl)
  go_wp2
  go_ret
  refine ⟨rfl, ?_, (((Chg.refl _ _).drew.set (Or.inl (by simp)) _ _).set (Or.inl (by simp)) _ _)⟩
  rw [HX.out]
  have hsz : (S.extract m S.size).size = S.size - m := by rw [ByteArray.size_extract]; omega
  refine ⟨h1, h2, hxn, by rw [hsz]; omega, h5, ?_, R, H7.out, (H8.out.other (Ne.symm h5) _ _).other (Ne.symm h5) _ _, ?_⟩
  · rw [hsz, show ((S.size - m : Nat) : Int) = (S.size : Int) - (m : Int) by omega]
    exact (h6.set 1 (.int .i64 x)).set 2 (.int .i64 ((S.size : Int) - (m : Int)))
  · intro i hi
    rw [hsz] at hi
    rw [← HX.out, rix_rix f n m i h3 (by omega) (by omega), ByteArray.getElem_extract]
    exact H9.out (m + i) (by omega)
/-- A number brought between none and so many. -/
def clN (k : Int) (h : Nat) : Nat := if k < 0 then 0 else min k.toNat h
theorem clN_le (k : Int) (h : Nat) : clN k h ≤ h := by unfold clN; split <;> omega
theorem clN_eq (k : Int) (h : Nat) : min (max k 0) (h : Int) = (clN k h : Int) := by unfold clN; split <;> omega
theorem cut_whole (S : ByteArray) : S.extract 0 S.size = S := by simp
theorem cut_zero (S : ByteArray) : S.extract 0 0 = ⟨#[]⟩ := ByteArray.ext (Array.eq_empty_of_size_eq_zero (by simp))
theorem drop_any (b g n f : Nat) (S : ByteArray) (k : Int) (w : World) (h : RAt w b g n f S) :
    Calls Try.prog 15 #[.pointer (some ⟨b, 0, none⟩), .int .i64 k] w fun e w' => ∃ f', e = .returned (.int .i64 (clN k S.size : Int)) ∧ RAt w' b g n f' (S.extract (clN k S.size) S.size) ∧ Chg [b] w w' := by
  have hc := clN_eq k S.size
  by_cases h0 : clN k S.size = 0
  · rw [h0] at hc ⊢
    refine (drop_zero b g n f S k w h hc).mono fun e w' ⟨he, hw⟩ => ⟨f, he, ?_, by rw [← hw]; exact Chg.refl _ _⟩
    rw [cut_whole, ← hw]; exact h
  · exact (drop_some b g n f _ S k w h hc (by omega) (clN_le _ _)).mono fun e w' ⟨he, hr, hw⟩ => ⟨_, he, hr, hw⟩
theorem pk_zero (S : ByteArray) (k : Int) : pk S 0 k = S.extract 0 (clN k S.size) := by
  unfold pk clN
  by_cases h : k < 0
  · rw [if_pos h, if_pos (by omega), cut_zero]
  · rw [if_neg h]
    by_cases h2 : (0 : Int) < 0 ∨ (S.size : Int) ≤ 0 ∨ k ≤ 0
    · rw [if_pos h2, show min k.toNat S.size = 0 by omega, cut_zero]
    · rw [if_neg h2]
      simp
theorem take_any (b g n f : Nat) (S : ByteArray) (k : Int) (w : World) (h : RAt w b g n f S) :
    Calls Try.prog 14 #[.pointer (some ⟨b, 0, none⟩), .int .i64 k] w fun e w' => ∃ f', e = .returned (.string (S.extract 0 (clN k S.size))) ∧ RAt w' b g n f' (S.extract (clN k S.size) S.size) ∧ Chg [b] w w' := by
  have HR := Lib.hid h
  have HP := Lib.hid (pk_zero S k)
  clear h
  go_enter Try.func14, Try.ntmps14
  go_wp2_with fail
  refine (peek_any b g n f S 0 k _ HR.out).mono ?_
  rintro e w1 ⟨rfl, b1⟩
  have HR1 := Lib.hid (HR.out.fresh b1)
  have HB1 := Lib.hid b1
  rw [HP.out]
  clear b1
  go_wp2_with fail
  refine (drop_any b g n f S k _ HR1.out).mono ?_
  rintro e w2 ⟨f', rfl, r2, b2⟩
  have HR2 := Lib.hid r2
  have HB2 := Lib.hid b2
  clear r2 b2
  go_wp2
  go_ret
  exact ⟨f', rfl, HR2.out, (Chg.of_fresh HB1.out).trans HB2.out (fun x hx => Or.inl hx)⟩
theorem put_any (b g n f : Nat) (S s : ByteArray) (w : World) (hs : s.size ≤ 100000) (h : RAt w b g n f S) :
    Calls Try.prog 12 #[.pointer (some ⟨b, 0, none⟩), .string s] w fun e w' => e = .returned (.int .i64 (min s.size (n - S.size) : Nat)) ∧ RAt w' b g n f (S ++ s.extract 0 (min s.size (n - S.size))) ∧ Chg [b, g] w w' := by
  by_cases hm : min s.size (n - S.size) = 0
  · rw [hm]
    refine (put_none b g n f S s w hs h hm).mono fun e w' ⟨he, hw⟩ => ⟨he, ?_, by rw [← hw]; exact Chg.refl _ _⟩
    rw [append_none _ _ (by simp), ← hw]; exact h
  · exact put_some b g n f _ S s w hs h rfl (by omega)
theorem new_any (n : Nat) (x : Int) (w : World) (hn : min (max x 1) 4096 = (n : Int)) :
    Calls Try.prog 7 #[.int .i64 x] w fun e w' => e = .returned (.pointer (some ⟨w.heap.size + 1, 0, none⟩)) ∧ RAt w' (w.heap.size + 1) w.heap.size n 0 ByteArray.empty ∧ Below w.heap.size w w' := by
  have hmk : ∀ W, (Instr.makeSlice 44 (.int .i64 n) (.int .i64 n)).run Try.prog W = .ok (.slice (some ⟨W.heap.size, 0, none⟩) n n) (W.alloc (.cells (List.replicate n (.int .u8 0)).toArray 5)) := fun W =>
    run_make_blk W _ _ _ Try.underlying44 1 info5 rfl n n (Nat.le_refl _) (by omega) (by omega)
  have n1 : 1 ≤ n ∧ n ≤ 4096 := by omega
  go_enter Try.func7, Try.ntmps7
  go_wp2
  go_ret
  refine ⟨rfl, ⟨n1.1, n1.2, by omega, by simp, by omega, ?_, List.replicate n (.int .u8 0), by simp, ?_, fun i hi => absurd hi (by simp)⟩, ((Below.refl _ _).alloc (Nat.le_refl _) _).alloc (by simp) _⟩
  · have := Blk.newA (w.alloc (Obj.cells (Array.replicate n (Value.int IntKind.u8 0)) 5)) #[.slice (some ⟨w.heap.size, 0, none⟩) n n, .int .i64 0, .int .i64 0] 54
    simpa using this
  · have := (Blk.newA w (Array.replicate n (Value.int IntKind.u8 0)) 5).alloc (Obj.cells #[.slice (some ⟨w.heap.size, 0, none⟩) n n, .int .i64 0, .int .i64 0] 54)
    rw [Array.toList_replicate] at this
    exact this
end Go.Proofs.Ytbgheljihjajdaa
