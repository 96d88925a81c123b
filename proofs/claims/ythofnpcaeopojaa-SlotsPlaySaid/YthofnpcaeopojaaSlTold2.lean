/- What slots tell is what the document's own answer tells, of whatever number is asked. -/
import Derived.Test.YthofnpcaeopojaaSlTold
namespace Go.Proofs.Ythofnpcaeopojaa
open Go.ChangeShapes Go.WideShapes Go.ChangeAt Go.RowKit
set_option linter.unusedSimpArgs false
set_option linter.unusedVariables false

theorem sl_who_lo (s g m n : Nat) (W : List Int) (M : List (Int × Int × Nat)) (c : Nat) (nx ask : Int) (w : World) (hj : ask < 0) (h : SA w s g m n W M c nx) :
    Calls Try.prog 17 #[.pointer (some ⟨s, 0, none⟩), .int .i64 ask] w fun e w' => e = .returned (.tuple #[.int .i64 0, .bool false]) ∧ w = w' := by
  have c1 := h.1.cell (i := 1) rfl
  clear h
  go_enter Try.func17, Try.ntmps17
  go_wp2
  go_ret2
  exact ⟨rfl, rfl⟩
theorem sl_who_hi (s g m n : Nat) (W : List Int) (M : List (Int × Int × Nat)) (c : Nat) (nx ask : Int) (w : World) (hn : n ≤ 1024) (hj : (n : Int) ≤ ask) (h : SA w s g m n W M c nx) :
    Calls Try.prog 17 #[.pointer (some ⟨s, 0, none⟩), .int .i64 ask] w fun e w' => e = .returned (.tuple #[.int .i64 0, .bool false]) ∧ w = w' := by
  have c1 := h.1.cell (i := 1) rfl
  have i0 : ¬ ask < 0 := by omega
  clear h
  go_enter Try.func17, Try.ntmps17
  go_wp2
  go_ret2
  exact ⟨rfl, rfl⟩
theorem told_any {w0 w : World} {s g m n c nx : Nat} {W : List Int} {M : List (Int × Int × Nat)} {lo : Nat} {a : Option Addr} (cp : Nat) (ask : Int) (hn : n ≤ 1024) (hM : M.length ≤ 1000) (hnx : nx ≤ 4096) (h : SL w0 w s g m n W M c nx) (hj : SJ n W M) (hl : RL w lo a (DM M)) :
    Calls Try.prog 15 #[.pointer (some ⟨s, 0, none⟩), .agg #[.slice a M.length cp, .int .i64 n, .int .i64 nx], .int .i64 ask] w fun e w' => e = .returned (.bool true) ∧ Below w.heap.size w w' := by
  have hso := h.2
  obtain ⟨sv, ra, b1, s1, s2, s3, c1⟩ : ∃ (sv ra : Int) (b1 : Bool), ((mIdx M ask).map (·.2)).getD 0 = sv ∧ (mIdx M ask).isSome = b1 ∧ rSlot (DM M) ask = ra ∧ ((b1 = true ∧ decide (0 ≤ ra) = true ∧ sv = ra) ∨ (b1 = false ∧ ra = -1 ∧ sv = 0)) := by
    have hr := DM_slot ask M
    cases hm : mIdx M ask with
    | none => exact ⟨0, -1, false, rfl, rfl, by rw [hr, hm]; rfl, Or.inr ⟨rfl, rfl, rfl⟩⟩
    | some p =>
      obtain ⟨i, v⟩ := p
      obtain ⟨b, hb⟩ := mIdx_some hm
      obtain ⟨_, j, hj2, _⟩ := hso.2.2.1 _ (List.mem_of_getElem? hb)
      simp only at hj2
      exact ⟨v, v, true, rfl, rfl, by rw [hr, hm]; rfl, Or.inl ⟨rfl, by rw [decide_eq_true_eq]; omega, rfl⟩⟩
  obtain ⟨wv, rb, b2, w1, w2, c2⟩ : ∃ (wv rb : Int) (b2 : Bool), (∀ w, SA w s g m n W M c nx → Calls Try.prog 17 #[.pointer (some ⟨s, 0, none⟩), .int .i64 ask] w fun e w' => e = .returned (.tuple #[.int .i64 wv, .bool b2]) ∧ w = w') ∧ rWho (DM M) ask = rb ∧ ((b2 = true ∧ decide (0 ≤ rb) = true ∧ wv = rb) ∨ (b2 = false ∧ rb = -1 ∧ wv = 0)) := by
    by_cases h0 : ask < 0
    · exact ⟨0, -1, false, fun w h => sl_who_lo s g m n W M c nx ask w h0 h, DM_who_out hso ask (Or.inl h0), Or.inr ⟨rfl, rfl, rfl⟩⟩
    · by_cases h1 : (n : Int) ≤ ask
      · exact ⟨0, -1, false, fun w h => sl_who_hi s g m n W M c nx ask w hn h1 h, DM_who_out hso ask (Or.inr h1), Or.inr ⟨rfl, rfl, rfl⟩⟩
      · obtain ⟨j, rfl⟩ : ∃ j : Nat, ask = (j : Int) := ⟨ask.toNat, by omega⟩
        have hjn : j < n := by omega
        by_cases hv : W.getD j 0 = -1
        · exact ⟨0, -1, false, fun w h => sl_who_no s g m n W M c nx j w hn hjn hv h, by rw [DM_who hso hj j hjn]; exact hv, Or.inr ⟨rfl, rfl, rfl⟩⟩
        · have hp := DM_who_pos hso hj j hjn hv
          rw [DM_who hso hj j hjn] at hp
          exact ⟨_, _, true, fun w h => sl_who_yes s g m n W M c nx _ j w hn hjn rfl (by rw [beq_eq_false_iff_ne]; exact hv) h, DM_who hso hj j hjn, Or.inl ⟨rfl, by rw [decide_eq_true_eq]; exact hp, rfl⟩⟩
  exact told_core s g m n W M c nx lo a cp ask sv ra wv rb b1 b2 w hn hM ⟨by omega, by omega⟩ hso.1 h.1.1 hl s1 s2 s3 w1 w2 c1 c2
end Go.Proofs.Ythofnpcaeopojaa
