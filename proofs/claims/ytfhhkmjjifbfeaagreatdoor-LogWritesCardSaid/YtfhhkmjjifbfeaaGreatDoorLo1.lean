/- Log: the words of what steps did. -/
import Derived.Test.YtfhhkmjjifbfeaaGreatDoorLe6
import Derived.WalkKit
import Derived.ProofKit
import Derived.Handy
import Derived.WalkLawsBesides
import Derived.WalkSpells
import Derived.Lib.Hide
import Derived.Lib.SliceRun
import Derived.Deep.RegionLaw
import Derived.RegionTactic
import Derived.ChangeAlike
import Derived.WalkSmall
import Derived.Deep.QuietTactic
import Derived.BigQuiet
import Derived.OwnWalk
import Derived.Outline
import Derived.Deep.CutRange
import Derived.Deep.CutBlock
import Derived.LoopTactic
namespace Go.Proofs.YtfhhkmjjifbfeaaGreatDoor
open Go.ChangeShapes Go.WideShapes Go.ChangeAt Go.RowKit
set_option linter.unusedSimpArgs false
set_option linter.unusedVariables false

/-- The word of what a step did. -/
def Lo.word (s : Int) : ByteArray := if s = 1 then { data := #[108, 111, 111, 107] } else if s = 2 then { data := #[109, 97, 116, 99, 104] } else if s = 3 then { data := #[116, 105, 109, 101, 111, 117, 116] } else if s = 4 then { data := #[101, 111, 102] } else if s = 5 then { data := #[108, 111, 97, 100] } else if s = 6 then { data := #[115, 101, 110, 116] } else if s = 7 then { data := #[106, 117, 109, 112] } else if s = 8 then { data := #[119, 111, 107, 101] } else if s = 9 then { data := #[100, 111, 110, 101] } else if s = 10 then { data := #[102, 97, 105, 108] } else if s = 11 then { data := #[108, 111, 111, 112, 101, 100] } else if s = 12 then { data := #[100, 101, 97, 100, 108, 105, 110, 101] } else if s = 13 then { data := #[111, 118, 101, 114, 102, 108, 111, 119] } else if s = 14 then { data := #[100, 114, 97, 105, 110, 101, 100] } else { data := #[] }
/-- The words of the program's table, where they lie. -/
def WI (w : World) : Prop := w.cell? ⟨0, 0, none⟩ = some (.string { data := #[] }) ∧ w.cell? ⟨0, 1, none⟩ = some (.string { data := #[108, 111, 111, 107] }) ∧ w.cell? ⟨0, 2, none⟩ = some (.string { data := #[109, 97, 116, 99, 104] }) ∧ w.cell? ⟨0, 3, none⟩ = some (.string { data := #[116, 105, 109, 101, 111, 117, 116] }) ∧ w.cell? ⟨0, 4, none⟩ = some (.string { data := #[101, 111, 102] }) ∧ w.cell? ⟨0, 5, none⟩ = some (.string { data := #[108, 111, 97, 100] }) ∧ w.cell? ⟨0, 6, none⟩ = some (.string { data := #[115, 101, 110, 116] }) ∧ w.cell? ⟨0, 7, none⟩ = some (.string { data := #[106, 117, 109, 112] }) ∧ w.cell? ⟨0, 8, none⟩ = some (.string { data := #[119, 111, 107, 101] }) ∧ w.cell? ⟨0, 9, none⟩ = some (.string { data := #[100, 111, 110, 101] }) ∧ w.cell? ⟨0, 10, none⟩ = some (.string { data := #[102, 97, 105, 108] }) ∧ w.cell? ⟨0, 11, none⟩ = some (.string { data := #[108, 111, 111, 112, 101, 100] }) ∧ w.cell? ⟨0, 12, none⟩ = some (.string { data := #[100, 101, 97, 100, 108, 105, 110, 101] }) ∧ w.cell? ⟨0, 13, none⟩ = some (.string { data := #[111, 118, 101, 114, 102, 108, 111, 119] }) ∧ w.cell? ⟨0, 14, none⟩ = some (.string { data := #[100, 114, 97, 105, 110, 101, 100] })
theorem WI.below {w w' : World} (h : WI w) (k : Below w.heap.size w w') : WI w' := by
  have hlt := World.block_lt_of_cell? _ _ h.1
  dsimp only at hlt
  obtain ⟨c0, c1, c2, c3, c4, c5, c6, c7, c8, c9, c10, c11, c12, c13, c14⟩ := h
  exact ⟨(k.cell hlt).trans c0, (k.cell hlt).trans c1, (k.cell hlt).trans c2, (k.cell hlt).trans c3, (k.cell hlt).trans c4, (k.cell hlt).trans c5, (k.cell hlt).trans c6, (k.cell hlt).trans c7, (k.cell hlt).trans c8, (k.cell hlt).trans c9, (k.cell hlt).trans c10, (k.cell hlt).trans c11, (k.cell hlt).trans c12, (k.cell hlt).trans c13, (k.cell hlt).trans c14⟩
set_option maxRecDepth 20000 in
set_option maxHeartbeats 16000000 in
theorem lo_what (s : Int) (X : ByteArray) (hX : Lo.word s = X) (w : World) (hs : WI w) : Calls Tryz.prog 10 #[.int .i64 s] w fun e w' => e = .returned (.string X) ∧ w' = w := by
  obtain ⟨c0, c1, c2, c3, c4, c5, c6, c7, c8, c9, c10, c11, c12, c13, c14⟩ := hs
  by_cases h1 : s = 1
  · subst h1
    have HX : Hid (({ data := #[108, 111, 111, 107] } : ByteArray) = X) := Lib.hid (by rw [← hX]; rfl)
    clear hX
    go_enter Tryz.func10, Tryz.ntmps10
    go_wp2_with (go_at_call 28; refine (le_within 1 1 14 true rfl _).mono ?_; rintro e1 W1 ⟨rfl, rfl⟩)
    go_ret
    exact ⟨by rw [← HX.out]; rfl, rfl⟩
  by_cases h2 : s = 2
  · subst h2
    have HX : Hid (({ data := #[109, 97, 116, 99, 104] } : ByteArray) = X) := Lib.hid (by rw [← hX]; rfl)
    clear hX
    go_enter Tryz.func10, Tryz.ntmps10
    go_wp2_with (go_at_call 28; refine (le_within 2 1 14 true rfl _).mono ?_; rintro e1 W1 ⟨rfl, rfl⟩)
    go_ret
    exact ⟨by rw [← HX.out]; rfl, rfl⟩
  by_cases h3 : s = 3
  · subst h3
    have HX : Hid (({ data := #[116, 105, 109, 101, 111, 117, 116] } : ByteArray) = X) := Lib.hid (by rw [← hX]; rfl)
    clear hX
    go_enter Tryz.func10, Tryz.ntmps10
    go_wp2_with (go_at_call 28; refine (le_within 3 1 14 true rfl _).mono ?_; rintro e1 W1 ⟨rfl, rfl⟩)
    go_ret
    exact ⟨by rw [← HX.out]; rfl, rfl⟩
  by_cases h4 : s = 4
  · subst h4
    have HX : Hid (({ data := #[101, 111, 102] } : ByteArray) = X) := Lib.hid (by rw [← hX]; rfl)
    clear hX
    go_enter Tryz.func10, Tryz.ntmps10
    go_wp2_with (go_at_call 28; refine (le_within 4 1 14 true rfl _).mono ?_; rintro e1 W1 ⟨rfl, rfl⟩)
    go_ret
    exact ⟨by rw [← HX.out]; rfl, rfl⟩
  by_cases h5 : s = 5
  · subst h5
    have HX : Hid (({ data := #[108, 111, 97, 100] } : ByteArray) = X) := Lib.hid (by rw [← hX]; rfl)
    clear hX
    go_enter Tryz.func10, Tryz.ntmps10
    go_wp2_with (go_at_call 28; refine (le_within 5 1 14 true rfl _).mono ?_; rintro e1 W1 ⟨rfl, rfl⟩)
    go_ret
    exact ⟨by rw [← HX.out]; rfl, rfl⟩
  by_cases h6 : s = 6
  · subst h6
    have HX : Hid (({ data := #[115, 101, 110, 116] } : ByteArray) = X) := Lib.hid (by rw [← hX]; rfl)
    clear hX
    go_enter Tryz.func10, Tryz.ntmps10
    go_wp2_with (go_at_call 28; refine (le_within 6 1 14 true rfl _).mono ?_; rintro e1 W1 ⟨rfl, rfl⟩)
    go_ret
    exact ⟨by rw [← HX.out]; rfl, rfl⟩
  by_cases h7 : s = 7
  · subst h7
    have HX : Hid (({ data := #[106, 117, 109, 112] } : ByteArray) = X) := Lib.hid (by rw [← hX]; rfl)
    clear hX
    go_enter Tryz.func10, Tryz.ntmps10
    go_wp2_with (go_at_call 28; refine (le_within 7 1 14 true rfl _).mono ?_; rintro e1 W1 ⟨rfl, rfl⟩)
    go_ret
    exact ⟨by rw [← HX.out]; rfl, rfl⟩
  by_cases h8 : s = 8
  · subst h8
    have HX : Hid (({ data := #[119, 111, 107, 101] } : ByteArray) = X) := Lib.hid (by rw [← hX]; rfl)
    clear hX
    go_enter Tryz.func10, Tryz.ntmps10
    go_wp2_with (go_at_call 28; refine (le_within 8 1 14 true rfl _).mono ?_; rintro e1 W1 ⟨rfl, rfl⟩)
    go_ret
    exact ⟨by rw [← HX.out]; rfl, rfl⟩
  by_cases h9 : s = 9
  · subst h9
    have HX : Hid (({ data := #[100, 111, 110, 101] } : ByteArray) = X) := Lib.hid (by rw [← hX]; rfl)
    clear hX
    go_enter Tryz.func10, Tryz.ntmps10
    go_wp2_with (go_at_call 28; refine (le_within 9 1 14 true rfl _).mono ?_; rintro e1 W1 ⟨rfl, rfl⟩)
    go_ret
    exact ⟨by rw [← HX.out]; rfl, rfl⟩
  by_cases h10 : s = 10
  · subst h10
    have HX : Hid (({ data := #[102, 97, 105, 108] } : ByteArray) = X) := Lib.hid (by rw [← hX]; rfl)
    clear hX
    go_enter Tryz.func10, Tryz.ntmps10
    go_wp2_with (go_at_call 28; refine (le_within 10 1 14 true rfl _).mono ?_; rintro e1 W1 ⟨rfl, rfl⟩)
    go_ret
    exact ⟨by rw [← HX.out]; rfl, rfl⟩
  by_cases h11 : s = 11
  · subst h11
    have HX : Hid (({ data := #[108, 111, 111, 112, 101, 100] } : ByteArray) = X) := Lib.hid (by rw [← hX]; rfl)
    clear hX
    go_enter Tryz.func10, Tryz.ntmps10
    go_wp2_with (go_at_call 28; refine (le_within 11 1 14 true rfl _).mono ?_; rintro e1 W1 ⟨rfl, rfl⟩)
    go_ret
    exact ⟨by rw [← HX.out]; rfl, rfl⟩
  by_cases h12 : s = 12
  · subst h12
    have HX : Hid (({ data := #[100, 101, 97, 100, 108, 105, 110, 101] } : ByteArray) = X) := Lib.hid (by rw [← hX]; rfl)
    clear hX
    go_enter Tryz.func10, Tryz.ntmps10
    go_wp2_with (go_at_call 28; refine (le_within 12 1 14 true rfl _).mono ?_; rintro e1 W1 ⟨rfl, rfl⟩)
    go_ret
    exact ⟨by rw [← HX.out]; rfl, rfl⟩
  by_cases h13 : s = 13
  · subst h13
    have HX : Hid (({ data := #[111, 118, 101, 114, 102, 108, 111, 119] } : ByteArray) = X) := Lib.hid (by rw [← hX]; rfl)
    clear hX
    go_enter Tryz.func10, Tryz.ntmps10
    go_wp2_with (go_at_call 28; refine (le_within 13 1 14 true rfl _).mono ?_; rintro e1 W1 ⟨rfl, rfl⟩)
    go_ret
    exact ⟨by rw [← HX.out]; rfl, rfl⟩
  by_cases h14 : s = 14
  · subst h14
    have HX : Hid (({ data := #[100, 114, 97, 105, 110, 101, 100] } : ByteArray) = X) := Lib.hid (by rw [← hX]; rfl)
    clear hX
    go_enter Tryz.func10, Tryz.ntmps10
    go_wp2_with (go_at_call 28; refine (le_within 14 1 14 true rfl _).mono ?_; rintro e1 W1 ⟨rfl, rfl⟩)
    go_ret
    exact ⟨by rw [← HX.out]; rfl, rfl⟩
  have hw : (decide ((1 : Int) ≤ s) && decide (s ≤ 14)) = false := by
    rw [Bool.and_eq_false_iff]
    simp only [decide_eq_false_iff_not]
    omega
  have HX : Hid (({ data := #[] } : ByteArray) = X) := Lib.hid (by rw [← hX]; unfold Lo.word; rw [if_neg h1, if_neg h2, if_neg h3, if_neg h4, if_neg h5, if_neg h6, if_neg h7, if_neg h8, if_neg h9, if_neg h10, if_neg h11, if_neg h12, if_neg h13, if_neg h14])
  have HW := Lib.hid hw
  clear hX h1 h2 h3 h4 h5 h6 h7 h8 h9 h10 h11 h12 h13 h14 hw
  go_enter Tryz.func10, Tryz.ntmps10
  go_wp2_with (go_at_call 28; refine (le_within s 1 14 false HW.out _).mono ?_; rintro e1 W1 ⟨rfl, rfl⟩)
  go_ret
  exact ⟨by rw [← HX.out]; rfl, rfl⟩
set_option maxRecDepth 20000 in
set_option maxHeartbeats 16000000 in
theorem ro_what (s : Int) (X : ByteArray) (hX : Lo.word s = X) (w : World) : Calls Tryz.prog 11 #[.int .i64 s] w fun e w' => e = .returned (.string X) ∧ Below w.heap.size w w' := by
  have H0 : Hid (Blk (w.alloc (.cells #[.string { data := #[108, 111, 111, 107] }, .string { data := #[109, 97, 116, 99, 104] }, .string { data := #[116, 105, 109, 101, 111, 117, 116] }, .string { data := #[101, 111, 102] }, .string { data := #[108, 111, 97, 100] }, .string { data := #[115, 101, 110, 116] }, .string { data := #[106, 117, 109, 112] }, .string { data := #[119, 111, 107, 101] }, .string { data := #[100, 111, 110, 101] }, .string { data := #[102, 97, 105, 108] }, .string { data := #[108, 111, 111, 112, 101, 100] }, .string { data := #[100, 101, 97, 100, 108, 105, 110, 101] }, .string { data := #[111, 118, 101, 114, 102, 108, 111, 119] }, .string { data := #[100, 114, 97, 105, 110, 101, 100] }] 9)) w.heap.size [.string { data := #[108, 111, 111, 107] }, .string { data := #[109, 97, 116, 99, 104] }, .string { data := #[116, 105, 109, 101, 111, 117, 116] }, .string { data := #[101, 111, 102] }, .string { data := #[108, 111, 97, 100] }, .string { data := #[115, 101, 110, 116] }, .string { data := #[106, 117, 109, 112] }, .string { data := #[119, 111, 107, 101] }, .string { data := #[100, 111, 110, 101] }, .string { data := #[102, 97, 105, 108] }, .string { data := #[108, 111, 111, 112, 101, 100] }, .string { data := #[100, 101, 97, 100, 108, 105, 110, 101] }, .string { data := #[111, 118, 101, 114, 102, 108, 111, 119] }, .string { data := #[100, 114, 97, 105, 110, 101, 100] }] 9 ∧ Below w.heap.size w (w.alloc (.cells #[.string { data := #[108, 111, 111, 107] }, .string { data := #[109, 97, 116, 99, 104] }, .string { data := #[116, 105, 109, 101, 111, 117, 116] }, .string { data := #[101, 111, 102] }, .string { data := #[108, 111, 97, 100] }, .string { data := #[115, 101, 110, 116] }, .string { data := #[106, 117, 109, 112] }, .string { data := #[119, 111, 107, 101] }, .string { data := #[100, 111, 110, 101] }, .string { data := #[102, 97, 105, 108] }, .string { data := #[108, 111, 111, 112, 101, 100] }, .string { data := #[100, 101, 97, 100, 108, 105, 110, 101] }, .string { data := #[111, 118, 101, 114, 102, 108, 111, 119] }, .string { data := #[100, 114, 97, 105, 110, 101, 100] }] 9))) := Lib.hid ⟨Blk.newA _ _ _, (Below.refl _ _).alloc (Nat.le_refl _) _⟩
  by_cases h1 : s = 1
  · subst h1
    have HX : Hid (({ data := #[108, 111, 111, 107] } : ByteArray) = X) := Lib.hid (by rw [← hX]; rfl)
    clear hX
    go_enter Tryz.func11, Tryz.ntmps11
    go_upto_region 2 with fail
    revert H0
    generalize (w.alloc (.cells #[.string { data := #[108, 111, 111, 107] }, .string { data := #[109, 97, 116, 99, 104] }, .string { data := #[116, 105, 109, 101, 111, 117, 116] }, .string { data := #[101, 111, 102] }, .string { data := #[108, 111, 97, 100] }, .string { data := #[115, 101, 110, 116] }, .string { data := #[106, 117, 109, 112] }, .string { data := #[119, 111, 107, 101] }, .string { data := #[100, 111, 110, 101] }, .string { data := #[102, 97, 105, 108] }, .string { data := #[108, 111, 111, 112, 101, 100] }, .string { data := #[100, 101, 97, 100, 108, 105, 110, 101] }, .string { data := #[111, 118, 101, 114, 102, 108, 111, 119] }, .string { data := #[100, 114, 97, 105, 110, 101, 100] }] 9)) = W0
    intro H0
    have c1 := H0.out.1.cell (i := 0) rfl
    go_wp2_with fail
    go_ret
    exact ⟨by rw [← HX.out]; rfl, H0.out.2⟩
  by_cases h2 : s = 2
  · subst h2
    have HX : Hid (({ data := #[109, 97, 116, 99, 104] } : ByteArray) = X) := Lib.hid (by rw [← hX]; rfl)
    clear hX
    go_enter Tryz.func11, Tryz.ntmps11
    go_upto_region 2 with fail
    revert H0
    generalize (w.alloc (.cells #[.string { data := #[108, 111, 111, 107] }, .string { data := #[109, 97, 116, 99, 104] }, .string { data := #[116, 105, 109, 101, 111, 117, 116] }, .string { data := #[101, 111, 102] }, .string { data := #[108, 111, 97, 100] }, .string { data := #[115, 101, 110, 116] }, .string { data := #[106, 117, 109, 112] }, .string { data := #[119, 111, 107, 101] }, .string { data := #[100, 111, 110, 101] }, .string { data := #[102, 97, 105, 108] }, .string { data := #[108, 111, 111, 112, 101, 100] }, .string { data := #[100, 101, 97, 100, 108, 105, 110, 101] }, .string { data := #[111, 118, 101, 114, 102, 108, 111, 119] }, .string { data := #[100, 114, 97, 105, 110, 101, 100] }] 9)) = W0
    intro H0
    have c2 := H0.out.1.cell (i := 1) rfl
    go_wp2_with fail
    go_ret
    exact ⟨by rw [← HX.out]; rfl, H0.out.2⟩
  by_cases h3 : s = 3
  · subst h3
    have HX : Hid (({ data := #[116, 105, 109, 101, 111, 117, 116] } : ByteArray) = X) := Lib.hid (by rw [← hX]; rfl)
    clear hX
    go_enter Tryz.func11, Tryz.ntmps11
    go_upto_region 2 with fail
    revert H0
    generalize (w.alloc (.cells #[.string { data := #[108, 111, 111, 107] }, .string { data := #[109, 97, 116, 99, 104] }, .string { data := #[116, 105, 109, 101, 111, 117, 116] }, .string { data := #[101, 111, 102] }, .string { data := #[108, 111, 97, 100] }, .string { data := #[115, 101, 110, 116] }, .string { data := #[106, 117, 109, 112] }, .string { data := #[119, 111, 107, 101] }, .string { data := #[100, 111, 110, 101] }, .string { data := #[102, 97, 105, 108] }, .string { data := #[108, 111, 111, 112, 101, 100] }, .string { data := #[100, 101, 97, 100, 108, 105, 110, 101] }, .string { data := #[111, 118, 101, 114, 102, 108, 111, 119] }, .string { data := #[100, 114, 97, 105, 110, 101, 100] }] 9)) = W0
    intro H0
    have c3 := H0.out.1.cell (i := 2) rfl
    go_wp2_with fail
    go_ret
    exact ⟨by rw [← HX.out]; rfl, H0.out.2⟩
  by_cases h4 : s = 4
  · subst h4
    have HX : Hid (({ data := #[101, 111, 102] } : ByteArray) = X) := Lib.hid (by rw [← hX]; rfl)
    clear hX
    go_enter Tryz.func11, Tryz.ntmps11
    go_upto_region 2 with fail
    revert H0
    generalize (w.alloc (.cells #[.string { data := #[108, 111, 111, 107] }, .string { data := #[109, 97, 116, 99, 104] }, .string { data := #[116, 105, 109, 101, 111, 117, 116] }, .string { data := #[101, 111, 102] }, .string { data := #[108, 111, 97, 100] }, .string { data := #[115, 101, 110, 116] }, .string { data := #[106, 117, 109, 112] }, .string { data := #[119, 111, 107, 101] }, .string { data := #[100, 111, 110, 101] }, .string { data := #[102, 97, 105, 108] }, .string { data := #[108, 111, 111, 112, 101, 100] }, .string { data := #[100, 101, 97, 100, 108, 105, 110, 101] }, .string { data := #[111, 118, 101, 114, 102, 108, 111, 119] }, .string { data := #[100, 114, 97, 105, 110, 101, 100] }] 9)) = W0
    intro H0
    have c4 := H0.out.1.cell (i := 3) rfl
    go_wp2_with fail
    go_ret
    exact ⟨by rw [← HX.out]; rfl, H0.out.2⟩
  by_cases h5 : s = 5
  · subst h5
    have HX : Hid (({ data := #[108, 111, 97, 100] } : ByteArray) = X) := Lib.hid (by rw [← hX]; rfl)
    clear hX
    go_enter Tryz.func11, Tryz.ntmps11
    go_upto_region 2 with fail
    revert H0
    generalize (w.alloc (.cells #[.string { data := #[108, 111, 111, 107] }, .string { data := #[109, 97, 116, 99, 104] }, .string { data := #[116, 105, 109, 101, 111, 117, 116] }, .string { data := #[101, 111, 102] }, .string { data := #[108, 111, 97, 100] }, .string { data := #[115, 101, 110, 116] }, .string { data := #[106, 117, 109, 112] }, .string { data := #[119, 111, 107, 101] }, .string { data := #[100, 111, 110, 101] }, .string { data := #[102, 97, 105, 108] }, .string { data := #[108, 111, 111, 112, 101, 100] }, .string { data := #[100, 101, 97, 100, 108, 105, 110, 101] }, .string { data := #[111, 118, 101, 114, 102, 108, 111, 119] }, .string { data := #[100, 114, 97, 105, 110, 101, 100] }] 9)) = W0
    intro H0
    have c5 := H0.out.1.cell (i := 4) rfl
    go_wp2_with fail
    go_ret
    exact ⟨by rw [← HX.out]; rfl, H0.out.2⟩
  by_cases h6 : s = 6
  · subst h6
    have HX : Hid (({ data := #[115, 101, 110, 116] } : ByteArray) = X) := Lib.hid (by rw [← hX]; rfl)
    clear hX
    go_enter Tryz.func11, Tryz.ntmps11
    go_upto_region 2 with fail
    revert H0
    generalize (w.alloc (.cells #[.string { data := #[108, 111, 111, 107] }, .string { data := #[109, 97, 116, 99, 104] }, .string { data := #[116, 105, 109, 101, 111, 117, 116] }, .string { data := #[101, 111, 102] }, .string { data := #[108, 111, 97, 100] }, .string { data := #[115, 101, 110, 116] }, .string { data := #[106, 117, 109, 112] }, .string { data := #[119, 111, 107, 101] }, .string { data := #[100, 111, 110, 101] }, .string { data := #[102, 97, 105, 108] }, .string { data := #[108, 111, 111, 112, 101, 100] }, .string { data := #[100, 101, 97, 100, 108, 105, 110, 101] }, .string { data := #[111, 118, 101, 114, 102, 108, 111, 119] }, .string { data := #[100, 114, 97, 105, 110, 101, 100] }] 9)) = W0
    intro H0
    have c6 := H0.out.1.cell (i := 5) rfl
    go_wp2_with fail
    go_ret
    exact ⟨by rw [← HX.out]; rfl, H0.out.2⟩
  by_cases h7 : s = 7
  · subst h7
    have HX : Hid (({ data := #[106, 117, 109, 112] } : ByteArray) = X) := Lib.hid (by rw [← hX]; rfl)
    clear hX
    go_enter Tryz.func11, Tryz.ntmps11
    go_upto_region 2 with fail
    revert H0
    generalize (w.alloc (.cells #[.string { data := #[108, 111, 111, 107] }, .string { data := #[109, 97, 116, 99, 104] }, .string { data := #[116, 105, 109, 101, 111, 117, 116] }, .string { data := #[101, 111, 102] }, .string { data := #[108, 111, 97, 100] }, .string { data := #[115, 101, 110, 116] }, .string { data := #[106, 117, 109, 112] }, .string { data := #[119, 111, 107, 101] }, .string { data := #[100, 111, 110, 101] }, .string { data := #[102, 97, 105, 108] }, .string { data := #[108, 111, 111, 112, 101, 100] }, .string { data := #[100, 101, 97, 100, 108, 105, 110, 101] }, .string { data := #[111, 118, 101, 114, 102, 108, 111, 119] }, .string { data := #[100, 114, 97, 105, 110, 101, 100] }] 9)) = W0
    intro H0
    have c7 := H0.out.1.cell (i := 6) rfl
    go_wp2_with fail
    go_ret
    exact ⟨by rw [← HX.out]; rfl, H0.out.2⟩
  by_cases h8 : s = 8
  · subst h8
    have HX : Hid (({ data := #[119, 111, 107, 101] } : ByteArray) = X) := Lib.hid (by rw [← hX]; rfl)
    clear hX
    go_enter Tryz.func11, Tryz.ntmps11
    go_upto_region 2 with fail
    revert H0
    generalize (w.alloc (.cells #[.string { data := #[108, 111, 111, 107] }, .string { data := #[109, 97, 116, 99, 104] }, .string { data := #[116, 105, 109, 101, 111, 117, 116] }, .string { data := #[101, 111, 102] }, .string { data := #[108, 111, 97, 100] }, .string { data := #[115, 101, 110, 116] }, .string { data := #[106, 117, 109, 112] }, .string { data := #[119, 111, 107, 101] }, .string { data := #[100, 111, 110, 101] }, .string { data := #[102, 97, 105, 108] }, .string { data := #[108, 111, 111, 112, 101, 100] }, .string { data := #[100, 101, 97, 100, 108, 105, 110, 101] }, .string { data := #[111, 118, 101, 114, 102, 108, 111, 119] }, .string { data := #[100, 114, 97, 105, 110, 101, 100] }] 9)) = W0
    intro H0
    have c8 := H0.out.1.cell (i := 7) rfl
    go_wp2_with fail
    go_ret
    exact ⟨by rw [← HX.out]; rfl, H0.out.2⟩
  by_cases h9 : s = 9
  · subst h9
    have HX : Hid (({ data := #[100, 111, 110, 101] } : ByteArray) = X) := Lib.hid (by rw [← hX]; rfl)
    clear hX
    go_enter Tryz.func11, Tryz.ntmps11
    go_upto_region 2 with fail
    revert H0
    generalize (w.alloc (.cells #[.string { data := #[108, 111, 111, 107] }, .string { data := #[109, 97, 116, 99, 104] }, .string { data := #[116, 105, 109, 101, 111, 117, 116] }, .string { data := #[101, 111, 102] }, .string { data := #[108, 111, 97, 100] }, .string { data := #[115, 101, 110, 116] }, .string { data := #[106, 117, 109, 112] }, .string { data := #[119, 111, 107, 101] }, .string { data := #[100, 111, 110, 101] }, .string { data := #[102, 97, 105, 108] }, .string { data := #[108, 111, 111, 112, 101, 100] }, .string { data := #[100, 101, 97, 100, 108, 105, 110, 101] }, .string { data := #[111, 118, 101, 114, 102, 108, 111, 119] }, .string { data := #[100, 114, 97, 105, 110, 101, 100] }] 9)) = W0
    intro H0
    have c9 := H0.out.1.cell (i := 8) rfl
    go_wp2_with fail
    go_ret
    exact ⟨by rw [← HX.out]; rfl, H0.out.2⟩
  by_cases h10 : s = 10
  · subst h10
    have HX : Hid (({ data := #[102, 97, 105, 108] } : ByteArray) = X) := Lib.hid (by rw [← hX]; rfl)
    clear hX
    go_enter Tryz.func11, Tryz.ntmps11
    go_upto_region 2 with fail
    revert H0
    generalize (w.alloc (.cells #[.string { data := #[108, 111, 111, 107] }, .string { data := #[109, 97, 116, 99, 104] }, .string { data := #[116, 105, 109, 101, 111, 117, 116] }, .string { data := #[101, 111, 102] }, .string { data := #[108, 111, 97, 100] }, .string { data := #[115, 101, 110, 116] }, .string { data := #[106, 117, 109, 112] }, .string { data := #[119, 111, 107, 101] }, .string { data := #[100, 111, 110, 101] }, .string { data := #[102, 97, 105, 108] }, .string { data := #[108, 111, 111, 112, 101, 100] }, .string { data := #[100, 101, 97, 100, 108, 105, 110, 101] }, .string { data := #[111, 118, 101, 114, 102, 108, 111, 119] }, .string { data := #[100, 114, 97, 105, 110, 101, 100] }] 9)) = W0
    intro H0
    have c10 := H0.out.1.cell (i := 9) rfl
    go_wp2_with fail
    go_ret
    exact ⟨by rw [← HX.out]; rfl, H0.out.2⟩
  by_cases h11 : s = 11
  · subst h11
    have HX : Hid (({ data := #[108, 111, 111, 112, 101, 100] } : ByteArray) = X) := Lib.hid (by rw [← hX]; rfl)
    clear hX
    go_enter Tryz.func11, Tryz.ntmps11
    go_upto_region 2 with fail
    revert H0
    generalize (w.alloc (.cells #[.string { data := #[108, 111, 111, 107] }, .string { data := #[109, 97, 116, 99, 104] }, .string { data := #[116, 105, 109, 101, 111, 117, 116] }, .string { data := #[101, 111, 102] }, .string { data := #[108, 111, 97, 100] }, .string { data := #[115, 101, 110, 116] }, .string { data := #[106, 117, 109, 112] }, .string { data := #[119, 111, 107, 101] }, .string { data := #[100, 111, 110, 101] }, .string { data := #[102, 97, 105, 108] }, .string { data := #[108, 111, 111, 112, 101, 100] }, .string { data := #[100, 101, 97, 100, 108, 105, 110, 101] }, .string { data := #[111, 118, 101, 114, 102, 108, 111, 119] }, .string { data := #[100, 114, 97, 105, 110, 101, 100] }] 9)) = W0
    intro H0
    have c11 := H0.out.1.cell (i := 10) rfl
    go_wp2_with fail
    go_ret
    exact ⟨by rw [← HX.out]; rfl, H0.out.2⟩
  by_cases h12 : s = 12
  · subst h12
    have HX : Hid (({ data := #[100, 101, 97, 100, 108, 105, 110, 101] } : ByteArray) = X) := Lib.hid (by rw [← hX]; rfl)
    clear hX
    go_enter Tryz.func11, Tryz.ntmps11
    go_upto_region 2 with fail
    revert H0
    generalize (w.alloc (.cells #[.string { data := #[108, 111, 111, 107] }, .string { data := #[109, 97, 116, 99, 104] }, .string { data := #[116, 105, 109, 101, 111, 117, 116] }, .string { data := #[101, 111, 102] }, .string { data := #[108, 111, 97, 100] }, .string { data := #[115, 101, 110, 116] }, .string { data := #[106, 117, 109, 112] }, .string { data := #[119, 111, 107, 101] }, .string { data := #[100, 111, 110, 101] }, .string { data := #[102, 97, 105, 108] }, .string { data := #[108, 111, 111, 112, 101, 100] }, .string { data := #[100, 101, 97, 100, 108, 105, 110, 101] }, .string { data := #[111, 118, 101, 114, 102, 108, 111, 119] }, .string { data := #[100, 114, 97, 105, 110, 101, 100] }] 9)) = W0
    intro H0
    have c12 := H0.out.1.cell (i := 11) rfl
    go_wp2_with fail
    go_ret
    exact ⟨by rw [← HX.out]; rfl, H0.out.2⟩
  by_cases h13 : s = 13
  · subst h13
    have HX : Hid (({ data := #[111, 118, 101, 114, 102, 108, 111, 119] } : ByteArray) = X) := Lib.hid (by rw [← hX]; rfl)
    clear hX
    go_enter Tryz.func11, Tryz.ntmps11
    go_upto_region 2 with fail
    revert H0
    generalize (w.alloc (.cells #[.string { data := #[108, 111, 111, 107] }, .string { data := #[109, 97, 116, 99, 104] }, .string { data := #[116, 105, 109, 101, 111, 117, 116] }, .string { data := #[101, 111, 102] }, .string { data := #[108, 111, 97, 100] }, .string { data := #[115, 101, 110, 116] }, .string { data := #[106, 117, 109, 112] }, .string { data := #[119, 111, 107, 101] }, .string { data := #[100, 111, 110, 101] }, .string { data := #[102, 97, 105, 108] }, .string { data := #[108, 111, 111, 112, 101, 100] }, .string { data := #[100, 101, 97, 100, 108, 105, 110, 101] }, .string { data := #[111, 118, 101, 114, 102, 108, 111, 119] }, .string { data := #[100, 114, 97, 105, 110, 101, 100] }] 9)) = W0
    intro H0
    have c13 := H0.out.1.cell (i := 12) rfl
    go_wp2_with fail
    go_ret
    exact ⟨by rw [← HX.out]; rfl, H0.out.2⟩
  by_cases h14 : s = 14
  · subst h14
    have HX : Hid (({ data := #[100, 114, 97, 105, 110, 101, 100] } : ByteArray) = X) := Lib.hid (by rw [← hX]; rfl)
    clear hX
    go_enter Tryz.func11, Tryz.ntmps11
    go_upto_region 2 with fail
    revert H0
    generalize (w.alloc (.cells #[.string { data := #[108, 111, 111, 107] }, .string { data := #[109, 97, 116, 99, 104] }, .string { data := #[116, 105, 109, 101, 111, 117, 116] }, .string { data := #[101, 111, 102] }, .string { data := #[108, 111, 97, 100] }, .string { data := #[115, 101, 110, 116] }, .string { data := #[106, 117, 109, 112] }, .string { data := #[119, 111, 107, 101] }, .string { data := #[100, 111, 110, 101] }, .string { data := #[102, 97, 105, 108] }, .string { data := #[108, 111, 111, 112, 101, 100] }, .string { data := #[100, 101, 97, 100, 108, 105, 110, 101] }, .string { data := #[111, 118, 101, 114, 102, 108, 111, 119] }, .string { data := #[100, 114, 97, 105, 110, 101, 100] }] 9)) = W0
    intro H0
    have c14 := H0.out.1.cell (i := 13) rfl
    go_wp2_with fail
    go_ret
    exact ⟨by rw [← HX.out]; rfl, H0.out.2⟩
  have HX : Hid (({ data := #[] } : ByteArray) = X) := Lib.hid (by rw [← hX]; unfold Lo.word; rw [if_neg h1, if_neg h2, if_neg h3, if_neg h4, if_neg h5, if_neg h6, if_neg h7, if_neg h8, if_neg h9, if_neg h10, if_neg h11, if_neg h12, if_neg h13, if_neg h14])
  by_cases hl : s < 1
  · clear hX h1 h2 h3 h4 h5 h6 h7 h8 h9 h10 h11 h12 h13 h14
    go_enter Tryz.func11, Tryz.ntmps11
    go_upto_region 2 with fail
    revert H0
    generalize (w.alloc (.cells #[.string { data := #[108, 111, 111, 107] }, .string { data := #[109, 97, 116, 99, 104] }, .string { data := #[116, 105, 109, 101, 111, 117, 116] }, .string { data := #[101, 111, 102] }, .string { data := #[108, 111, 97, 100] }, .string { data := #[115, 101, 110, 116] }, .string { data := #[106, 117, 109, 112] }, .string { data := #[119, 111, 107, 101] }, .string { data := #[100, 111, 110, 101] }, .string { data := #[102, 97, 105, 108] }, .string { data := #[108, 111, 111, 112, 101, 100] }, .string { data := #[100, 101, 97, 100, 108, 105, 110, 101] }, .string { data := #[111, 118, 101, 114, 102, 108, 111, 119] }, .string { data := #[100, 114, 97, 105, 110, 101, 100] }] 9)) = W0
    intro H0
    go_wp2_with fail
    go_ret
    exact ⟨by rw [← HX.out]; rfl, H0.out.2⟩
  · have hg : (14 : Int) < s := by omega
    clear hX h1 h2 h3 h4 h5 h6 h7 h8 h9 h10 h11 h12 h13 h14
    go_enter Tryz.func11, Tryz.ntmps11
    go_upto_region 2 with fail
    revert H0
    generalize (w.alloc (.cells #[.string { data := #[108, 111, 111, 107] }, .string { data := #[109, 97, 116, 99, 104] }, .string { data := #[116, 105, 109, 101, 111, 117, 116] }, .string { data := #[101, 111, 102] }, .string { data := #[108, 111, 97, 100] }, .string { data := #[115, 101, 110, 116] }, .string { data := #[106, 117, 109, 112] }, .string { data := #[119, 111, 107, 101] }, .string { data := #[100, 111, 110, 101] }, .string { data := #[102, 97, 105, 108] }, .string { data := #[108, 111, 111, 112, 101, 100] }, .string { data := #[100, 101, 97, 100, 108, 105, 110, 101] }, .string { data := #[111, 118, 101, 114, 102, 108, 111, 119] }, .string { data := #[100, 114, 97, 105, 110, 101, 100] }] 9)) = W0
    intro H0
    go_wp2_with fail
    go_ret
    exact ⟨by rw [← HX.out]; rfl, H0.out.2⟩
end Go.Proofs.YtfhhkmjjifbfeaaGreatDoor
