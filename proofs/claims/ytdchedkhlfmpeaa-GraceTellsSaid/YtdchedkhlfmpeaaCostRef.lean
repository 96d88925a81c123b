/- Contracts of Turns, Wait and Until of the document's own answers. -/
import Derived.Test.YtdchedkhlfmpeaaCoA
namespace Go.Proofs.Ytdchedkhlfmpeaa
open Go.ChangeShapes Go.WideShapes Go.ChangeAt Go.RowKit
set_option linter.unusedSimpArgs false
set_option linter.unusedVariables false

set_option maxHeartbeats 2000000 in
theorem rturns_good (l r i o q v : Int) (hg : Co.goodB l r i o q v = true) (w : World) : Calls Try.prog 86 #[.agg #[.int .i64 l, .int .i64 r, .int .i64 i, .int .i64 o, .int .i64 q, .int .i64 v]] w fun e w' => e = .returned (.int .i64 (Co.turns l r i o q v)) ∧ Below w.heap.size w w' := by
  have HG := Lib.hid hg
  have HT0 := Lib.hid (Co.turns_bd l r i o q v)
  clear hg
  go_enter Try.func86, Try.ntmps86
  go_wp2
  have HC := Lib.hid (setup_new w l r i o q v 54)
  have hs : w.heap.size + 1 ≤ (w.alloc (Obj.cells #[.int .i64 l, .int .i64 r, .int .i64 i, .int .i64 o, .int .i64 q, .int .i64 v] 54)).heap.size := by simp
  have HB : Hid (Below w.heap.size w (w.alloc (Obj.cells #[.int .i64 l, .int .i64 r, .int .i64 i, .int .i64 o, .int .i64 q, .int .i64 v] 54))) := Lib.hid ((Below.refl _ _).alloc (Nat.le_refl _) _)
  revert HC hs HB
  generalize w.alloc (Obj.cells #[.int .i64 l, .int .i64 r, .int .i64 i, .int .i64 o, .int .i64 q, .int .i64 v] 54) = w1
  intro HC hs HB
  go_loopw [3] (fun n wr => ∃ k : Nat, (k : Int) ≤ Co.turns l r i o q v ∧ n = .int .i64 k ∧ Hid (Below (w.heap.size + 1) w1 wr)) (fun n _ => (Co.turns l r i o q v - intOf n).toNat)
  case atStart => exact ⟨0, by have := HT0.out; omega, rfl, Lib.hid (Below.refl _ _)⟩
  case round =>
    obtain ⟨k, hk, rfl, HR⟩ := hrel
    have hb := HT0.out
    have ht := Co.turns_test l r i o q v k (by omega) (Or.inl HG.out)
    have hks := Co.turns_mul l r i o q v HG.out k (by omega) hk
    have s1 : IntKind.i64.wrap ((k : Int) * q) = (k : Int) * q := IntWalk.i64_in _ (by omega)
    by_cases hlt : (k : Int) < Co.turns l r i o q v
    · have hp : decide ((k : Int) * q < Co.most l r i o q v) = true := by rw [ht]; simpa using hlt
      have hp2 : (k : Int) * q < Co.most l r i o q v := by simpa using hp
      clear ht hp
      go_wp2
      go_region_held3 (fun w' => Below (w.heap.size + 1) w1 w' ∧ w'.cell? ⟨w.heap.size, 0, none⟩ = some (.int .i64 l) ∧ w'.cell? ⟨w.heap.size, 1, none⟩ = some (.int .i64 r) ∧ w'.cell? ⟨w.heap.size, 2, none⟩ = some (.int .i64 i) ∧ w'.cell? ⟨w.heap.size, 3, none⟩ = some (.int .i64 o) ∧ w'.cell? ⟨w.heap.size, 4, none⟩ = some (.int .i64 q) ∧ w'.cell? ⟨w.heap.size, 5, none⟩ = some (.int .i64 v))
        (first | exact setup_S HC.out (by omega) (Below.drew HR.out) | (go_split_ands; exact setup_S HC.out (by omega) (below_on hs (by first | assumption | exact (Below.drew HR.out)) hb2)))
        ((go_at_call 102; refine (rmost_any _ _ _ _ _ _ _).mono ?_; rintro e w2 ⟨rfl, hb2⟩))
      go_wp2
      go_roundw
      case rel =>
        go_split_ands
        exact ⟨k + 1, by omega, by go_num, by assumption⟩
      case measure => simp [intOf]; omega
    · have hp : decide ((k : Int) * q < Co.most l r i o q v) = false := by rw [ht]; simpa using hlt
      have hp2 : Co.most l r i o q v ≤ (k : Int) * q := by simpa using hp
      have hke : Hid ((k : Int) = Co.turns l r i o q v) := Lib.hid (by omega)
      clear ht hp
      go_wp2
      go_region_held3 (fun w' => Below (w.heap.size + 1) w1 w' ∧ w'.cell? ⟨w.heap.size, 0, none⟩ = some (.int .i64 l) ∧ w'.cell? ⟨w.heap.size, 1, none⟩ = some (.int .i64 r) ∧ w'.cell? ⟨w.heap.size, 2, none⟩ = some (.int .i64 i) ∧ w'.cell? ⟨w.heap.size, 3, none⟩ = some (.int .i64 o) ∧ w'.cell? ⟨w.heap.size, 4, none⟩ = some (.int .i64 q) ∧ w'.cell? ⟨w.heap.size, 5, none⟩ = some (.int .i64 v))
        (first | exact setup_S HC.out (by omega) (Below.drew HR.out) | (go_split_ands; exact setup_S HC.out (by omega) (below_on hs (by first | assumption | exact (Below.drew HR.out)) hb2)))
        ((go_at_call 102; refine (rmost_any _ _ _ _ _ _ _).mono ?_; rintro e w2 ⟨rfl, hb2⟩))
      go_wp2
      go_ret
      go_split_ands
      exact ⟨ret_i64 hke.out, HB.out.trans (Below.mono (B := w.heap.size + 1) (by assumption) (by omega))⟩
set_option maxHeartbeats 2000000 in
theorem rturns_bad (l r i o q v : Int) (hg : Co.goodB l r i o q v = false) (w : World) : Calls Try.prog 86 #[.agg #[.int .i64 l, .int .i64 r, .int .i64 i, .int .i64 o, .int .i64 q, .int .i64 v]] w fun e w' => e = .returned (.int .i64 (Co.turns l r i o q v)) ∧ Below w.heap.size w w' := by
  have HT : Hid (Co.turns l r i o q v = 0) := by simp [Hid, Co.turns, hg]
  have hm : Co.most l r i o q v = 0 := by simp [Co.most, hg]
  have s1 : IntKind.i64.wrap (0 * q) = 0 := by rw [Int.zero_mul]; rfl
  clear hg
  go_enter Try.func86, Try.ntmps86
  go_wp2
  have HC := Lib.hid (setup_new w l r i o q v 54)
  have hs : w.heap.size + 1 ≤ (w.alloc (Obj.cells #[.int .i64 l, .int .i64 r, .int .i64 i, .int .i64 o, .int .i64 q, .int .i64 v] 54)).heap.size := by simp
  have HB : Hid (Below w.heap.size w (w.alloc (Obj.cells #[.int .i64 l, .int .i64 r, .int .i64 i, .int .i64 o, .int .i64 q, .int .i64 v] 54))) := Lib.hid ((Below.refl _ _).alloc (Nat.le_refl _) _)
  revert HC hs HB
  generalize w.alloc (Obj.cells #[.int .i64 l, .int .i64 r, .int .i64 i, .int .i64 o, .int .i64 q, .int .i64 v] 54) = w1
  intro HC hs HB
  refine wp_loop_rounds 1 ?_
  rw [rounds_succ]
  go_wp2
  go_region_held3 (fun w' => Below (w.heap.size + 1) w1 w' ∧ w'.cell? ⟨w.heap.size, 0, none⟩ = some (.int .i64 l) ∧ w'.cell? ⟨w.heap.size, 1, none⟩ = some (.int .i64 r) ∧ w'.cell? ⟨w.heap.size, 2, none⟩ = some (.int .i64 i) ∧ w'.cell? ⟨w.heap.size, 3, none⟩ = some (.int .i64 o) ∧ w'.cell? ⟨w.heap.size, 4, none⟩ = some (.int .i64 q) ∧ w'.cell? ⟨w.heap.size, 5, none⟩ = some (.int .i64 v))
        (first | exact setup_S HC.out (by omega) (Below.refl _ _).drew | (go_split_ands; exact setup_S HC.out (by omega) (below_on hs (by first | assumption | exact (Below.refl _ _).drew) hb2)))
        ((go_at_call 102; refine (rmost_any _ _ _ _ _ _ _).mono ?_; rintro e w2 ⟨rfl, hb2⟩))
  go_wp2
  go_ret
  go_split_ands
  exact ⟨ret_i64 HT.out.symm, HB.out.trans (Below.mono (B := w.heap.size + 1) (by assumption) (by omega))⟩
theorem rturns_any (l r i o q v : Int) (w : World) : Calls Try.prog 86 #[.agg #[.int .i64 l, .int .i64 r, .int .i64 i, .int .i64 o, .int .i64 q, .int .i64 v]] w fun e w' => e = .returned (.int .i64 (Co.turns l r i o q v)) ∧ Below w.heap.size w w' := by
  cases hg : Co.goodB l r i o q v
  case false => exact rturns_bad l r i o q v hg w
  case true => exact rturns_good l r i o q v hg w
set_option maxHeartbeats 1000000 in
theorem rwait_any (l r i o q v : Int) (w : World) : Calls Try.prog 65 #[.agg #[.int .i64 l, .int .i64 r, .int .i64 i, .int .i64 o, .int .i64 q, .int .i64 v]] w fun e w' => e = .returned (.int .i64 (Co.wait l r i o q v)) ∧ Below w.heap.size w w' := by
  have hw := Co.wait_bd l r i o q v
  have HT : Hid (l * Co.turns l r i o q v = Co.wait l r i o q v) := rfl
  have s1 : IntKind.i64.wrap (l * Co.turns l r i o q v) = l * Co.turns l r i o q v := IntWalk.i64_in _ (by have := HT.out; omega)
  cases hg : Co.goodB l r i o q v
  case false =>
    have HU : Hid (Co.wait l r i o q v = 0) := by simp [Hid, Co.wait, Co.turns, hg]
    go_enter Try.func65, Try.ntmps65
    go_wp2_with (go_at_call 49; refine (rgood_any _ _ _ _ _ _ _).mono ?_; rintro e w1 ⟨rfl, hb⟩)
    go_ret
    exact ⟨ret_i64 HU.out.symm, below1 (by assumption)⟩
  case true =>
    go_enter Try.func65, Try.ntmps65
    go_wp2_with (go_at_call 49; refine (rgood_any _ _ _ _ _ _ _).mono ?_; rintro e w1 ⟨rfl, hb⟩; have HC : Hid (SetupAt w1 w.heap.size l r i o q v) := setup_cells hb; have HB := Lib.hid (below1 hb); have hs : w.heap.size + 1 ≤ w1.heap.size := (by have := hb.size; simpa using this); clear hb)
    go_region_held3 (fun w' => Below (w.heap.size + 1) w1 w' ∧ w'.cell? ⟨w.heap.size, 0, none⟩ = some (.int .i64 l) ∧ w'.cell? ⟨w.heap.size, 1, none⟩ = some (.int .i64 r) ∧ w'.cell? ⟨w.heap.size, 2, none⟩ = some (.int .i64 i) ∧ w'.cell? ⟨w.heap.size, 3, none⟩ = some (.int .i64 o) ∧ w'.cell? ⟨w.heap.size, 4, none⟩ = some (.int .i64 q) ∧ w'.cell? ⟨w.heap.size, 5, none⟩ = some (.int .i64 v))
      (first | exact setup_S HC.out (by omega) (Below.refl _ _).drew | (go_split_ands; exact setup_S HC.out (by omega) (below_on hs (by first | assumption | exact (Below.refl _ _).drew) hb2)))
      ((go_at_call 86; refine (rturns_any _ _ _ _ _ _ _).mono ?_; rintro e w2 ⟨rfl, hb2⟩))
    go_wp2
    go_ret
    go_split_ands
    exact ⟨ret_i64 HT.out, HB.out.trans (Below.mono (B := w.heap.size + 1) (by assumption) (by omega))⟩
set_option maxHeartbeats 1000000 in
theorem runtil_any (l r i o q v a n : Int) (ha : a ≤ 9223372036854775807) (hn : n ≤ 9223372036854775807) (w : World) : Calls Try.prog 50 #[.agg #[.int .i64 l, .int .i64 r, .int .i64 i, .int .i64 o, .int .i64 q, .int .i64 v], .int .i64 a, .int .i64 n] w fun e w' => e = .returned (.int .i64 (Co.untl l r i o q v a n)) ∧ Below w.heap.size w w' := by
  have hw := Co.wait_bd l r i o q v
  have t1 := Tk.times_le n (Co.wait l r i o q v + 1)
  have t2 := Tk.add_le a (Tk.times n (Co.wait l r i o q v + 1))
  cases hg : Co.goodB l r i o q v
  case false =>
    have HU : Hid (Co.untl l r i o q v a n = 0) := by simp [Hid, Co.untl, hg]
    go_enter Try.func50, Try.ntmps50
    go_wp2_with (go_at_call 49; refine (rgood_any _ _ _ _ _ _ _).mono ?_; rintro e w1 ⟨rfl, hb⟩)
    go_ret
    exact ⟨ret_i64 HU.out.symm, below1 (by assumption)⟩
  case true =>
    have HU : Hid (Co.untl l r i o q v a n = Tk.add a (Tk.times n (Co.wait l r i o q v + 1))) := by
      simp only [Hid, Co.untl, hg, if_true]
      exact Tk.add_times a n _ (by omega)
    go_enter Try.func50, Try.ntmps50
    go_wp2_with (first | (go_at_call 49; refine (rgood_any _ _ _ _ _ _ _).mono ?_; rintro e w1 ⟨rfl, hb⟩; obtain ⟨c0, c1, c2, c3, c4, c5⟩ := setup_cells hb; have HB := Lib.hid (below1 hb); clear hb) | (go_at_call 65; refine (rwait_any _ _ _ _ _ _ _).mono ?_; rintro e w2 ⟨rfl, hb2⟩) | (go_at_call 64; refine (rtimes_any _ _ (by omega) (by omega) _).mono ?_; rintro e w' ⟨rfl, rfl⟩) | (go_at_call 63; refine (radd_any _ _ (by omega) (by omega) _).mono ?_; rintro e w' ⟨rfl, rfl⟩))
    go_ret
    exact ⟨ret_i64 HU.out.symm, below_on (Nat.le_refl _) HB.out (by assumption)⟩
end Go.Proofs.Ytdchedkhlfmpeaa
