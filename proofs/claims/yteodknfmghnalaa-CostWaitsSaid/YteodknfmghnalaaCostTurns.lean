/- Contracts of Turns, Wait and Until (package cost). -/
import Derived.Test.YteodknfmghnalaaCostPrice
namespace Go.Proofs.Yteodknfmghnalaa
open Go.ChangeShapes Go.WideShapes Go.ChangeAt Go.RowKit
set_option linter.unusedSimpArgs false
set_option linter.unusedVariables false

def SetupAt (W : World) (b : Nat) (l r i o q v : Int) : Prop :=
  W.cell? ⟨b, 0, none⟩ = some (.int .i64 l) ∧ W.cell? ⟨b, 1, none⟩ = some (.int .i64 r) ∧ W.cell? ⟨b, 2, none⟩ = some (.int .i64 i) ∧ W.cell? ⟨b, 3, none⟩ = some (.int .i64 o) ∧ W.cell? ⟨b, 4, none⟩ = some (.int .i64 q) ∧ W.cell? ⟨b, 5, none⟩ = some (.int .i64 v)
theorem SetupAt.kept {W W' : World} {B b : Nat} {l r i o q v : Int} (h : SetupAt W b l r i o q v) (hb : Below B W W') (hlt : b < B) : SetupAt W' b l r i o q v := by
  obtain ⟨h0, h1, h2, h3, h4, h5⟩ := h
  exact ⟨(hb.cell (by simpa using hlt)).trans h0, (hb.cell (by simpa using hlt)).trans h1, (hb.cell (by simpa using hlt)).trans h2, (hb.cell (by simpa using hlt)).trans h3, (hb.cell (by simpa using hlt)).trans h4, (hb.cell (by simpa using hlt)).trans h5⟩
theorem setup_S {W W' : World} {B b : Nat} {l r i o q v : Int} (h : SetupAt W b l r i o q v) (hlt : b < B) (hb : Below B W W') :
    Below B W W' ∧ W'.cell? ⟨b, 0, none⟩ = some (.int .i64 l) ∧ W'.cell? ⟨b, 1, none⟩ = some (.int .i64 r) ∧ W'.cell? ⟨b, 2, none⟩ = some (.int .i64 i) ∧ W'.cell? ⟨b, 3, none⟩ = some (.int .i64 o) ∧ W'.cell? ⟨b, 4, none⟩ = some (.int .i64 q) ∧ W'.cell? ⟨b, 5, none⟩ = some (.int .i64 v) := ⟨hb, h.kept hb hlt⟩
theorem below_on {B : Nat} {W W' W'' : World} (hB : B ≤ W.heap.size) (h : Below B W W') (hb : Below W'.heap.size W' W'') : Below B W W'' := h.trans (hb.mono (by have := h.size; omega))

set_option maxHeartbeats 1000000 in
theorem turns_any (l r i o q v : Int) (w : World) : Calls Try.prog 13 #[.agg #[.int .i64 l, .int .i64 r, .int .i64 i, .int .i64 o, .int .i64 q, .int .i64 v]] w fun e w' => e = .returned (.int .i64 (Co.turns l r i o q v)) ∧ Below w.heap.size w w' := by
  cases hg : Co.goodB l r i o q v
  case false =>
    go_enter Try.func13, Try.ntmps13
    go_wp2_with (go_at_call 7; refine (good_any _ _ _ _ _ _ _).mono ?_; rintro e w1 ⟨rfl, hb⟩)
    go_ret
    exact ⟨ret_i64 (by simp [Co.turns, hg]), below1 (by assumption)⟩
  case true =>
    have bd := Co.good_bd hg
    have bm := Co.mostI_bd i o (by omega) (by omega) (by omega) (by omega)
    have em : Co.most l r i o q v = Co.mostI i o := by simp [Co.most, hg]
    have et : Co.turns l r i o q v = (Co.mostI i o + q - 1) / q := by simp [Co.turns, Co.turnsI, hg]
    have HT := Lib.hid et
    clear et
    have s1 : IntKind.i64.wrap (Co.mostI i o + q) = Co.mostI i o + q := IntWalk.i64_in _ (by omega)
    have s2 : IntKind.i64.wrap (Co.mostI i o + q - 1) = Co.mostI i o + q - 1 := IntWalk.i64_in _ (by omega)
    have s3 : IntKind.i64.wrap ((Co.mostI i o + q - 1).tdiv q) = (Co.mostI i o + q - 1) / q := IntWalk.i64_quo _ _ (by omega)
    have s4 : (q == 0) = false := by simp; omega
    have s5 : q ≠ 0 := by omega
    go_enter Try.func13, Try.ntmps13
    go_wp2_with (go_at_call 7; refine (good_any _ _ _ _ _ _ _).mono ?_; rintro e w1 ⟨rfl, hb⟩; have HC : Hid (SetupAt w1 w.heap.size l r i o q v) := setup_cells hb; have HB := Lib.hid (below1 hb); have hs : w.heap.size + 1 ≤ w1.heap.size := (by have := hb.size; simpa using this); clear hb)
    go_region_held3 (fun w' => Below (w.heap.size + 1) w1 w' ∧ w'.cell? ⟨w.heap.size, 0, none⟩ = some (.int .i64 l) ∧ w'.cell? ⟨w.heap.size, 1, none⟩ = some (.int .i64 r) ∧ w'.cell? ⟨w.heap.size, 2, none⟩ = some (.int .i64 i) ∧ w'.cell? ⟨w.heap.size, 3, none⟩ = some (.int .i64 o) ∧ w'.cell? ⟨w.heap.size, 4, none⟩ = some (.int .i64 q) ∧ w'.cell? ⟨w.heap.size, 5, none⟩ = some (.int .i64 v))
      (first | exact setup_S HC.out (by omega) (Below.refl _ _).drew | (go_split_ands; exact setup_S HC.out (by omega) (below_on hs (by first | assumption | exact (Below.refl _ _).drew) hb2)))
      ((go_at_call 10; refine (most_any _ _ _ _ _ _ _).mono ?_; rintro e w2 ⟨rfl, hb2⟩))
    go_wp2
    go_ret
    go_split_ands
    exact ⟨ret_i64 HT.out.symm, HB.out.trans (Below.mono (B := w.heap.size + 1) (by assumption) (by omega))⟩
theorem setup_new (w : World) (l r i o q v : Int) (t : TypeId) : SetupAt (w.alloc (Obj.cells #[.int .i64 l, .int .i64 r, .int .i64 i, .int .i64 o, .int .i64 q, .int .i64 v] t)) w.heap.size l r i o q v := by
  refine ⟨?_, ?_, ?_, ?_, ?_, ?_⟩
  all_goals simp [go_sem]
set_option maxHeartbeats 1000000 in
theorem wait_any (l r i o q v : Int) (w : World) : Calls Try.prog 15 #[.agg #[.int .i64 l, .int .i64 r, .int .i64 i, .int .i64 o, .int .i64 q, .int .i64 v]] w fun e w' => e = .returned (.int .i64 (Co.wait l r i o q v)) ∧ Below w.heap.size w w' := by
  have hw := Co.wait_bd l r i o q v
  have HT : Hid (l * Co.turns l r i o q v = Co.wait l r i o q v) := rfl
  have s1 : IntKind.i64.wrap (l * Co.turns l r i o q v) = l * Co.turns l r i o q v := IntWalk.i64_in _ (by have := HT.out; omega)
  go_enter Try.func15, Try.ntmps15
  go_wp2
  have HC := Lib.hid (setup_new w l r i o q v 23)
  have hs : w.heap.size + 1 ≤ (w.alloc (Obj.cells #[.int .i64 l, .int .i64 r, .int .i64 i, .int .i64 o, .int .i64 q, .int .i64 v] 23)).heap.size := by simp
  have HB : Hid (Below w.heap.size w (w.alloc (Obj.cells #[.int .i64 l, .int .i64 r, .int .i64 i, .int .i64 o, .int .i64 q, .int .i64 v] 23))) := Lib.hid ((Below.refl _ _).alloc (Nat.le_refl _) _)
  revert HC hs HB
  generalize w.alloc (Obj.cells #[.int .i64 l, .int .i64 r, .int .i64 i, .int .i64 o, .int .i64 q, .int .i64 v] 23) = w1
  intro HC hs HB
  go_region_held3 (fun w' => Below (w.heap.size + 1) w1 w' ∧ w'.cell? ⟨w.heap.size, 0, none⟩ = some (.int .i64 l) ∧ w'.cell? ⟨w.heap.size, 1, none⟩ = some (.int .i64 r) ∧ w'.cell? ⟨w.heap.size, 2, none⟩ = some (.int .i64 i) ∧ w'.cell? ⟨w.heap.size, 3, none⟩ = some (.int .i64 o) ∧ w'.cell? ⟨w.heap.size, 4, none⟩ = some (.int .i64 q) ∧ w'.cell? ⟨w.heap.size, 5, none⟩ = some (.int .i64 v))
      (first | exact setup_S HC.out (by omega) (Below.refl _ _).drew | (go_split_ands; exact setup_S HC.out (by omega) (below_on hs (by first | assumption | exact (Below.refl _ _).drew) hb2)))
      ((go_at_call 13; refine (turns_any _ _ _ _ _ _ _).mono ?_; rintro e w2 ⟨rfl, hb2⟩))
  go_wp2
  go_ret
  go_split_ands
  exact ⟨ret_i64 HT.out, HB.out.trans (Below.mono (B := w.heap.size + 1) (by assumption) (by omega))⟩
set_option maxHeartbeats 1000000 in
theorem until_any (l r i o q v a n : Int) (ha : a ≤ 9223372036854775807) (hn : n ≤ 9223372036854775807) (w : World) : Calls Try.prog 17 #[.agg #[.int .i64 l, .int .i64 r, .int .i64 i, .int .i64 o, .int .i64 q, .int .i64 v], .int .i64 a, .int .i64 n] w fun e w' => e = .returned (.int .i64 (Co.untl l r i o q v a n)) ∧ Below w.heap.size w w' := by
  have hw := Co.wait_bd l r i o q v
  have t1 := Tk.times_le n (Co.wait l r i o q v)
  have t2 := Tk.add_le a (Tk.times n (Co.wait l r i o q v))
  cases hg : Co.goodB l r i o q v
  case false =>
    have HU : Hid (Co.untl l r i o q v a n = 0) := by simp [Hid, Co.untl, hg]
    go_enter Try.func17, Try.ntmps17
    go_wp2_with (go_at_call 7; refine (good_any _ _ _ _ _ _ _).mono ?_; rintro e w1 ⟨rfl, hb⟩)
    go_ret
    exact ⟨ret_i64 HU.out.symm, below1 (by assumption)⟩
  case true =>
    have HU : Hid (Co.untl l r i o q v a n = Tk.add (Tk.add a (Tk.times n (Co.wait l r i o q v))) n) := by simp [Hid, Co.untl, hg]
    go_enter Try.func17, Try.ntmps17
    go_wp2_with (first | (go_at_call 7; refine (good_any _ _ _ _ _ _ _).mono ?_; rintro e w1 ⟨rfl, hb⟩; obtain ⟨c0, c1, c2, c3, c4, c5⟩ := setup_cells hb; have HB := Lib.hid (below1 hb); clear hb) | (go_at_call 15; refine (wait_any _ _ _ _ _ _ _).mono ?_; rintro e w2 ⟨rfl, hb2⟩) | (go_at_call 23; refine (times_any _ _ (by omega) (by omega) _).mono ?_; rintro e w' ⟨rfl, rfl⟩) | (go_at_call 22; refine (add_any _ _ (by omega) (by omega) _).mono ?_; rintro e w' ⟨rfl, rfl⟩))
    go_ret
    exact ⟨ret_i64 HU.out.symm, below_on (Nat.le_refl _) HB.out (by assumption)⟩
theorem next_new {w w1 : World} {l r i o q v : Int} {t : TypeId} (hb : Below (w.alloc (Obj.cells #[.int .i64 l, .int .i64 r, .int .i64 i, .int .i64 o, .int .i64 q, .int .i64 v] t)).heap.size (w.alloc (Obj.cells #[.int .i64 l, .int .i64 r, .int .i64 i, .int .i64 o, .int .i64 q, .int .i64 v] t)) w1) :
    SetupAt w1 w.heap.size l r i o q v ∧ Below w.heap.size w w1 ∧ w.heap.size < w1.heap.size := ⟨setup_cells hb, below1 hb, by have := hb.size; simp at this; omega⟩
theorem next_on {w wa wb : World} {b : Nat} {l r i o q v : Int} (hb : Below wa.heap.size wa wb) (h0 : wa.cell? ⟨b, 0, none⟩ = some (.int .i64 l)) (h1 : wa.cell? ⟨b, 1, none⟩ = some (.int .i64 r)) (h2 : wa.cell? ⟨b, 2, none⟩ = some (.int .i64 i)) (h3 : wa.cell? ⟨b, 3, none⟩ = some (.int .i64 o)) (h4 : wa.cell? ⟨b, 4, none⟩ = some (.int .i64 q)) (h5 : wa.cell? ⟨b, 5, none⟩ = some (.int .i64 v))
    (hB : Below w.heap.size w wa) (hs : b < wa.heap.size) : SetupAt wb b l r i o q v ∧ Below w.heap.size w wb ∧ b < wb.heap.size :=
  ⟨SetupAt.kept (B := wa.heap.size) ⟨h0, h1, h2, h3, h4, h5⟩ hb hs, below_on (Nat.le_refl _) hB hb, by have := hb.size; omega⟩
set_option maxHeartbeats 1000000 in
theorem lives_any (w : World) : Calls Try.prog 12 #[] w fun e w' => e = .returned (.bool true) ∧ Below w.heap.size w w' := by
  have g0 : Co.goodB 5 8 10 4 3 1 = true := by decide
  have g1 : Co.most 5 8 10 4 3 1 = 11 := by decide
  have g2 : Co.turns 5 8 10 4 3 1 = 4 := by decide
  have g3 : Co.wait 5 8 10 4 3 1 = 20 := by decide
  have g4 : Co.untl 5 8 10 4 3 1 100 2 = 142 := by decide
  have g5 : Co.price 5 8 10 4 3 1 2 2 3 = 6 := by decide
  go_enter Try.func12, Try.ntmps12
  go_wp2_with (first
    | (go_at_call 7; refine (good_any _ _ _ _ _ _ _).mono ?_; rintro e w1 ⟨rfl, hb⟩; obtain ⟨⟨c0, c1, c2, c3, c4, c5⟩, hbel, hsz⟩ := next_new hb; clear hb)
    | (go_at_call 10; refine (most_any _ _ _ _ _ _ _).mono ?_; rintro e w1 ⟨rfl, hb⟩; obtain ⟨⟨c0, c1, c2, c3, c4, c5⟩, hbel, hsz⟩ := next_on hb (by assumption) (by assumption) (by assumption) (by assumption) (by assumption) (by assumption) (by assumption) (by assumption); clear hb)
    | (go_at_call 13; refine (turns_any _ _ _ _ _ _ _).mono ?_; rintro e w1 ⟨rfl, hb⟩; obtain ⟨⟨c0, c1, c2, c3, c4, c5⟩, hbel, hsz⟩ := next_on hb (by assumption) (by assumption) (by assumption) (by assumption) (by assumption) (by assumption) (by assumption) (by assumption); clear hb)
    | (go_at_call 15; refine (wait_any _ _ _ _ _ _ _).mono ?_; rintro e w1 ⟨rfl, hb⟩; obtain ⟨⟨c0, c1, c2, c3, c4, c5⟩, hbel, hsz⟩ := next_on hb (by assumption) (by assumption) (by assumption) (by assumption) (by assumption) (by assumption) (by assumption) (by assumption); clear hb)
    | (go_at_call 17; refine (until_any _ _ _ _ _ _ _ _ (by omega) (by omega) _).mono ?_; rintro e w1 ⟨rfl, hb⟩; obtain ⟨⟨c0, c1, c2, c3, c4, c5⟩, hbel, hsz⟩ := next_on hb (by assumption) (by assumption) (by assumption) (by assumption) (by assumption) (by assumption) (by assumption) (by assumption); clear hb)
    | (go_at_call 6; refine (price_any _ _ _ _ _ _ _ _ _ _).mono ?_; rintro e w1 ⟨rfl, hb⟩; obtain ⟨⟨c0, c1, c2, c3, c4, c5⟩, hbel, hsz⟩ := next_on hb (by assumption) (by assumption) (by assumption) (by assumption) (by assumption) (by assumption) (by assumption) (by assumption); clear hb))
  go_ret
  exact ⟨rfl, by assumption⟩
end Go.Proofs.Yteodknfmghnalaa
