/- Contracts of slots (package slots), second half: Open. -/
import Derived.Test.YthofnpcaeopojaaSl
namespace Go.Proofs.Ythofnpcaeopojaa
open Go.ChangeShapes Go.WideShapes Go.ChangeAt Go.RowKit
set_option linter.unusedSimpArgs false
set_option linter.unusedVariables false

theorem sl_open_end (s g m n : Nat) (W : List Int) (M : List (Int × Int × Nat)) (c : Nat) (nx : Int) (w : World) (h1 : 4096 ≤ nx) (h : SA w s g m n W M c nx) :
    Calls Try.prog 10 #[.pointer (some ⟨s, 0, none⟩)] w fun e w' => e = .returned (.tuple #[.int .i64 0, .int .i64 0, .bool false]) ∧ w = w' := by
  have c2 := h.1.cell (i := 2) rfl
  clear h
  go_enter Try.func10, Try.ntmps10
  go_wp2
  go_ret3
  exact ⟨rfl, rfl⟩
theorem sl_index (s g m n : Nat) (W : List Int) (M : List (Int × Int × Nat)) (c : Nat) (nx j : Int) (w : World) (hn : n ≤ 1024) (h : SA w s g m n W M c nx) (hi : Lib.idxOf W (-1) = j) :
    Calls Try.prog 25 #[.slice (some ⟨g, 0, none⟩) n n, .int .i64 (-1)] w fun e w' => e = .returned (.int .i64 j) ∧ w = w' := by
  have hl := h.2.2.2.1
  refine (Try.slices_Index_int g 0 n n W (-1) w (by omega) (by omega) (fun k hk => by rw [Nat.zero_add]; exact h.wcell k (by omega))).mono ?_
  rintro e w' ⟨rfl, rfl⟩
  refine ⟨?_, rfl⟩
  rw [List.take_of_length_le (by omega), hi]
theorem sl_open_full (s g m n : Nat) (W : List Int) (M : List (Int × Int × Nat)) (c : Nat) (nx : Int) (w : World) (hn : n ≤ 1024) (h1 : nx < 4096) (hi : Lib.idxOf W (-1) = -1) (h : SA w s g m n W M c nx) :
    Calls Try.prog 10 #[.pointer (some ⟨s, 0, none⟩)] w fun e w' => e = .returned (.tuple #[.int .i64 0, .int .i64 0, .bool false]) ∧ w = w' := by
  have H := Lib.hid h
  have HI := Lib.hid hi
  have c2 := h.1.cell (i := 2) rfl
  have c1 := h.1.cell (i := 1) rfl
  clear h hi
  go_enter Try.func10, Try.ntmps10
  go_wp2_with (go_at_call 25; refine (sl_index s g m n W M c nx (-1) _ hn H.out HI.out).mono ?_; rintro e w' ⟨rfl, rfl⟩)
  go_ret3
  exact ⟨rfl, rfl⟩
set_option maxRecDepth 20000 in
set_option maxHeartbeats 2000000 in
theorem sl_open (s g m n : Nat) (W : List Int) (M : List (Int × Int × Nat)) (c : Nat) (nx : Int) (j : Nat) (w : World) (hn : n ≤ 1024) (h0 : 0 ≤ nx) (h1 : nx < 4096) (hj : j < n) (hi : Lib.idxOf W (-1) = (j : Int)) (hk : mIdx M nx = none) (hb : ∀ x ∈ M, x.2.2 < c) (h : SA w s g m n W M c nx) :
    Calls Try.prog 10 #[.pointer (some ⟨s, 0, none⟩)] w fun e w' => e = .returned (.tuple #[.int .i64 nx, .int .i64 j, .bool true]) ∧ SA w' s g m n (W.set j nx) (M ++ [(nx, (j : Int), c)]) (c + 1) (nx + 1) ∧ Chg [s, g, m] w w' := by
  have H := Lib.hid h
  have HI := Lib.hid (And.intro hi (And.intro hk hb))
  have c2 := h.1.cell (i := 2) rfl
  have c1 := h.1.cell (i := 1) rfl
  have i0 : (0 : Int) ≤ (j : Int) := by omega
  have i1 : (j : Int) < (n : Int) := by omega
  clear h hi hk hb
  go_enter Try.func10, Try.ntmps10
  go_upto_region 7 with (first
    | (go_at_call 25; refine (sl_index s g m n W M c nx j _ hn H.out HI.out.1).mono ?_; rintro e w' ⟨rfl, rfl⟩)
    | (go_at_call 11; refine (sl_skip s g m n W M c nx _ h0 h1 H.out).mono ?_; rintro e w1 ⟨rfl, k1, k2⟩; have H1 := Lib.hid (And.intro k1 k2); clear k1 k2))
  clear c2 c1
  have d1 := H1.out.1.1.cell (i := 1) rfl
  have d0 := H1.out.1.1.cell (i := 0) rfl
  have wc := H1.out.1.wcell j hj
  have wf := H1.out.1.2.1.free j
  have hs3 := (H1.out.1.setW j nx).drew
  obtain ⟨w4, hw4⟩ : ∃ w4, setMp (w1.setCell ⟨g, j, none⟩ (.int .i64 nx)).drew m (M ++ [(nx, 0, c)]) (c + 1) = w4 := ⟨_, rfl⟩
  have hme := run_entry_new (P := Try.prog) Try.underlying51 Try.underlying3 zeroInt hs3.2.2.1 nx HI.out.2.1
  rw [hw4] at hme
  have hs4 : SA w4 s g m n (W.set j nx) (M ++ [(nx, 0, c)]) (c + 1) (nx + 1) := by rw [← hw4]; exact hs3.setM _ _
  obtain ⟨w5, hw5⟩ : ∃ w5, setMp w4 m (M ++ [(nx, (j : Int), c)]) (c + 1) = w5 := ⟨_, rfl⟩
  have hes := run_entry_store (P := Try.prog) (t := 51) hs4.2.2.1 HI.out.2.2 (j : Int)
  rw [hw5] at hes
  have H5 : Hid (SA w5 s g m n (W.set j nx) (M ++ [(nx, (j : Int), c)]) (c + 1) (nx + 1) ∧ Chg [s, g, m] w w5) := Lib.hid (by
    rw [← hw5]
    refine ⟨hs4.setM _ _, ?_⟩
    rw [← hw4]
    exact ((((H1.out.2.mono (by simp)).set (Or.inl (by simp)) _ _).drew).trans (setMp_chg _ _ _ _) (by simp)).trans (setMp_chg _ _ _ _) (by simp))
  clear hs3 hs4 hw4 hw5
  go_region
  all_goals
    go_wp2
    go_ret3
    exact ⟨rfl, H5.out⟩
end Go.Proofs.Ythofnpcaeopojaa
