/- Ledger: words of a status. -/
import Derived.Test.YtfhhkmjjifbfeaaGreatDoorBlk
import Derived.WalkKit
import Derived.ProofKit
import Derived.Handy
import Derived.WalkLawsBesides
import Derived.WalkSpells
import Derived.Lib.Hide
import Derived.Lib.SliceRun
import Derived.Deep.RegionLaw
import Derived.RegionTactic
import Derived.ChangeAlike
import Derived.WalkSmall
import Derived.Deep.QuietTactic
import Derived.BigQuiet
import Derived.OwnWalk
import Derived.Outline
import Derived.Deep.CutRange
import Derived.Deep.CutBlock
import Derived.LoopTactic
namespace Go.Proofs.YtfhhkmjjifbfeaaGreatDoor
open Go.ChangeShapes Go.WideShapes Go.ChangeAt Go.RowKit
set_option linter.unusedSimpArgs false
set_option linter.unusedVariables false

/-- The word of a status. -/
def Le.word (s : Int) : ByteArray := if s = 0 then { data := #[114, 117, 110] } else if s = 1 then { data := #[100, 111, 110, 101] } else if s = 2 then { data := #[102, 97, 105, 108, 101, 100] } else if s = 3 then { data := #[100, 101, 97, 100, 108, 105, 110, 101] } else if s = 4 then { data := #[111, 118, 101, 114, 102, 108, 111, 119] } else if s = 5 then { data := #[100, 114, 97, 105, 110, 101, 100] } else { data := #[] }
/-- The words of the program's table, where they lie. -/
def SI (w : World) : Prop := w.cell? ⟨1, 0, none⟩ = some (.string { data := #[114, 117, 110] }) ∧ w.cell? ⟨1, 1, none⟩ = some (.string { data := #[100, 111, 110, 101] }) ∧ w.cell? ⟨1, 2, none⟩ = some (.string { data := #[102, 97, 105, 108, 101, 100] }) ∧ w.cell? ⟨1, 3, none⟩ = some (.string { data := #[100, 101, 97, 100, 108, 105, 110, 101] }) ∧ w.cell? ⟨1, 4, none⟩ = some (.string { data := #[111, 118, 101, 114, 102, 108, 111, 119] }) ∧ w.cell? ⟨1, 5, none⟩ = some (.string { data := #[100, 114, 97, 105, 110, 101, 100] })
theorem SI.below {w w' : World} (h : SI w) (k : Below w.heap.size w w') : SI w' := by
  have hlt := World.block_lt_of_cell? _ _ h.1
  dsimp only at hlt
  obtain ⟨a, b, c, d, e, f⟩ := h
  exact ⟨(k.cell hlt).trans a, (k.cell hlt).trans b, (k.cell hlt).trans c, (k.cell hlt).trans d, (k.cell hlt).trans e, (k.cell hlt).trans f⟩
theorem le_within (n a b : Int) (r : Bool) (hr : (decide (a ≤ n) && decide (n ≤ b)) = r) (w : World) : Calls Tryz.prog 28 #[.int .i64 n, .int .i64 a, .int .i64 b] w fun e w' => e = .returned (.bool r) ∧ w' = w := by
  by_cases h1 : a ≤ n
  · by_cases h2 : n ≤ b
    · obtain rfl : true = r := by rw [← hr]; simp [h1, h2]
      clear hr
      go_enter Tryz.func28, Tryz.ntmps28
      go_wp2_with fail
      go_ret
      exact ⟨rfl, rfl⟩
    · obtain rfl : false = r := by rw [← hr]; simp [h1, h2]
      clear hr
      go_enter Tryz.func28, Tryz.ntmps28
      go_wp2_with fail
      go_ret
      exact ⟨rfl, rfl⟩
  · obtain rfl : false = r := by rw [← hr]; simp [h1]
    clear hr
    go_enter Tryz.func28, Tryz.ntmps28
    go_wp2_with fail
    go_ret
    exact ⟨rfl, rfl⟩
set_option maxRecDepth 20000 in
set_option maxHeartbeats 16000000 in
theorem le_status (s : Int) (X : ByteArray) (hX : Le.word s = X) (w : World) (hs : SI w) : Calls Tryz.prog 12 #[.int .i64 s] w fun e w' => e = .returned (.string X) ∧ w' = w := by
  obtain ⟨c0, c1, c2, c3, c4, c5⟩ := hs
  by_cases h0 : s = 0
  · subst h0
    have HX : Hid (({ data := #[114, 117, 110] } : ByteArray) = X) := Lib.hid (by rw [← hX]; rfl)
    clear hX
    go_enter Tryz.func12, Tryz.ntmps12
    go_wp2_with (go_at_call 28; refine (le_within 0 0 5 true rfl _).mono ?_; rintro e1 W1 ⟨rfl, rfl⟩)
    go_ret
    exact ⟨by rw [← HX.out]; rfl, rfl⟩
  by_cases h1 : s = 1
  · subst h1
    have HX : Hid (({ data := #[100, 111, 110, 101] } : ByteArray) = X) := Lib.hid (by rw [← hX]; rfl)
    clear hX
    go_enter Tryz.func12, Tryz.ntmps12
    go_wp2_with (go_at_call 28; refine (le_within 1 0 5 true rfl _).mono ?_; rintro e1 W1 ⟨rfl, rfl⟩)
    go_ret
    exact ⟨by rw [← HX.out]; rfl, rfl⟩
  by_cases h2 : s = 2
  · subst h2
    have HX : Hid (({ data := #[102, 97, 105, 108, 101, 100] } : ByteArray) = X) := Lib.hid (by rw [← hX]; rfl)
    clear hX
    go_enter Tryz.func12, Tryz.ntmps12
    go_wp2_with (go_at_call 28; refine (le_within 2 0 5 true rfl _).mono ?_; rintro e1 W1 ⟨rfl, rfl⟩)
    go_ret
    exact ⟨by rw [← HX.out]; rfl, rfl⟩
  by_cases h3 : s = 3
  · subst h3
    have HX : Hid (({ data := #[100, 101, 97, 100, 108, 105, 110, 101] } : ByteArray) = X) := Lib.hid (by rw [← hX]; rfl)
    clear hX
    go_enter Tryz.func12, Tryz.ntmps12
    go_wp2_with (go_at_call 28; refine (le_within 3 0 5 true rfl _).mono ?_; rintro e1 W1 ⟨rfl, rfl⟩)
    go_ret
    exact ⟨by rw [← HX.out]; rfl, rfl⟩
  by_cases h4 : s = 4
  · subst h4
    have HX : Hid (({ data := #[111, 118, 101, 114, 102, 108, 111, 119] } : ByteArray) = X) := Lib.hid (by rw [← hX]; rfl)
    clear hX
    go_enter Tryz.func12, Tryz.ntmps12
    go_wp2_with (go_at_call 28; refine (le_within 4 0 5 true rfl _).mono ?_; rintro e1 W1 ⟨rfl, rfl⟩)
    go_ret
    exact ⟨by rw [← HX.out]; rfl, rfl⟩
  by_cases h5 : s = 5
  · subst h5
    have HX : Hid (({ data := #[100, 114, 97, 105, 110, 101, 100] } : ByteArray) = X) := Lib.hid (by rw [← hX]; rfl)
    clear hX
    go_enter Tryz.func12, Tryz.ntmps12
    go_wp2_with (go_at_call 28; refine (le_within 5 0 5 true rfl _).mono ?_; rintro e1 W1 ⟨rfl, rfl⟩)
    go_ret
    exact ⟨by rw [← HX.out]; rfl, rfl⟩
  have hw : (decide ((0 : Int) ≤ s) && decide (s ≤ 5)) = false := by
    rw [Bool.and_eq_false_iff]
    simp only [decide_eq_false_iff_not]
    omega
  have HX : Hid (({ data := #[] } : ByteArray) = X) := Lib.hid (by rw [← hX]; unfold Le.word; rw [if_neg h0, if_neg h1, if_neg h2, if_neg h3, if_neg h4, if_neg h5])
  have HW := Lib.hid hw
  clear hX h0 h1 h2 h3 h4 h5 hw
  go_enter Tryz.func12, Tryz.ntmps12
  go_wp2_with (go_at_call 28; refine (le_within s 0 5 false HW.out _).mono ?_; rintro e1 W1 ⟨rfl, rfl⟩)
  go_ret
  exact ⟨by rw [← HX.out]; rfl, rfl⟩
set_option maxRecDepth 20000 in
set_option maxHeartbeats 16000000 in
theorem rl_status (s : Int) (X : ByteArray) (hX : Le.word s = X) (w : World) : Calls Tryz.prog 13 #[.int .i64 s] w fun e w' => e = .returned (.string X) ∧ Below w.heap.size w w' := by
  have H0 : Hid (Blk (w.alloc (.cells #[.string { data := #[114, 117, 110] }, .string { data := #[100, 111, 110, 101] }, .string { data := #[102, 97, 105, 108, 101, 100] }, .string { data := #[100, 101, 97, 100, 108, 105, 110, 101] }, .string { data := #[111, 118, 101, 114, 102, 108, 111, 119] }, .string { data := #[100, 114, 97, 105, 110, 101, 100] }] 9)) w.heap.size [.string { data := #[114, 117, 110] }, .string { data := #[100, 111, 110, 101] }, .string { data := #[102, 97, 105, 108, 101, 100] }, .string { data := #[100, 101, 97, 100, 108, 105, 110, 101] }, .string { data := #[111, 118, 101, 114, 102, 108, 111, 119] }, .string { data := #[100, 114, 97, 105, 110, 101, 100] }] 9 ∧ Below w.heap.size w (w.alloc (.cells #[.string { data := #[114, 117, 110] }, .string { data := #[100, 111, 110, 101] }, .string { data := #[102, 97, 105, 108, 101, 100] }, .string { data := #[100, 101, 97, 100, 108, 105, 110, 101] }, .string { data := #[111, 118, 101, 114, 102, 108, 111, 119] }, .string { data := #[100, 114, 97, 105, 110, 101, 100] }] 9))) := Lib.hid ⟨Blk.newA _ _ _, (Below.refl _ _).alloc (Nat.le_refl _) _⟩
  by_cases h0 : s = 0
  · subst h0
    have HX : Hid (({ data := #[114, 117, 110] } : ByteArray) = X) := Lib.hid (by rw [← hX]; rfl)
    clear hX
    go_enter Tryz.func13, Tryz.ntmps13
    go_upto_region 2 with fail
    revert H0
    generalize (w.alloc (.cells #[.string { data := #[114, 117, 110] }, .string { data := #[100, 111, 110, 101] }, .string { data := #[102, 97, 105, 108, 101, 100] }, .string { data := #[100, 101, 97, 100, 108, 105, 110, 101] }, .string { data := #[111, 118, 101, 114, 102, 108, 111, 119] }, .string { data := #[100, 114, 97, 105, 110, 101, 100] }] 9)) = W0
    intro H0
    have c0 := H0.out.1.cell (i := 0) rfl
    go_wp2_with fail
    go_ret
    exact ⟨by rw [← HX.out]; rfl, H0.out.2⟩
  by_cases h1 : s = 1
  · subst h1
    have HX : Hid (({ data := #[100, 111, 110, 101] } : ByteArray) = X) := Lib.hid (by rw [← hX]; rfl)
    clear hX
    go_enter Tryz.func13, Tryz.ntmps13
    go_upto_region 2 with fail
    revert H0
    generalize (w.alloc (.cells #[.string { data := #[114, 117, 110] }, .string { data := #[100, 111, 110, 101] }, .string { data := #[102, 97, 105, 108, 101, 100] }, .string { data := #[100, 101, 97, 100, 108, 105, 110, 101] }, .string { data := #[111, 118, 101, 114, 102, 108, 111, 119] }, .string { data := #[100, 114, 97, 105, 110, 101, 100] }] 9)) = W0
    intro H0
    have c1 := H0.out.1.cell (i := 1) rfl
    go_wp2_with fail
    go_ret
    exact ⟨by rw [← HX.out]; rfl, H0.out.2⟩
  by_cases h2 : s = 2
  · subst h2
    have HX : Hid (({ data := #[102, 97, 105, 108, 101, 100] } : ByteArray) = X) := Lib.hid (by rw [← hX]; rfl)
    clear hX
    go_enter Tryz.func13, Tryz.ntmps13
    go_upto_region 2 with fail
    revert H0
    generalize (w.alloc (.cells #[.string { data := #[114, 117, 110] }, .string { data := #[100, 111, 110, 101] }, .string { data := #[102, 97, 105, 108, 101, 100] }, .string { data := #[100, 101, 97, 100, 108, 105, 110, 101] }, .string { data := #[111, 118, 101, 114, 102, 108, 111, 119] }, .string { data := #[100, 114, 97, 105, 110, 101, 100] }] 9)) = W0
    intro H0
    have c2 := H0.out.1.cell (i := 2) rfl
    go_wp2_with fail
    go_ret
    exact ⟨by rw [← HX.out]; rfl, H0.out.2⟩
  by_cases h3 : s = 3
  · subst h3
    have HX : Hid (({ data := #[100, 101, 97, 100, 108, 105, 110, 101] } : ByteArray) = X) := Lib.hid (by rw [← hX]; rfl)
    clear hX
    go_enter Tryz.func13, Tryz.ntmps13
    go_upto_region 2 with fail
    revert H0
    generalize (w.alloc (.cells #[.string { data := #[114, 117, 110] }, .string { data := #[100, 111, 110, 101] }, .string { data := #[102, 97, 105, 108, 101, 100] }, .string { data := #[100, 101, 97, 100, 108, 105, 110, 101] }, .string { data := #[111, 118, 101, 114, 102, 108, 111, 119] }, .string { data := #[100, 114, 97, 105, 110, 101, 100] }] 9)) = W0
    intro H0
    have c3 := H0.out.1.cell (i := 3) rfl
    go_wp2_with fail
    go_ret
    exact ⟨by rw [← HX.out]; rfl, H0.out.2⟩
  by_cases h4 : s = 4
  · subst h4
    have HX : Hid (({ data := #[111, 118, 101, 114, 102, 108, 111, 119] } : ByteArray) = X) := Lib.hid (by rw [← hX]; rfl)
    clear hX
    go_enter Tryz.func13, Tryz.ntmps13
    go_upto_region 2 with fail
    revert H0
    generalize (w.alloc (.cells #[.string { data := #[114, 117, 110] }, .string { data := #[100, 111, 110, 101] }, .string { data := #[102, 97, 105, 108, 101, 100] }, .string { data := #[100, 101, 97, 100, 108, 105, 110, 101] }, .string { data := #[111, 118, 101, 114, 102, 108, 111, 119] }, .string { data := #[100, 114, 97, 105, 110, 101, 100] }] 9)) = W0
    intro H0
    have c4 := H0.out.1.cell (i := 4) rfl
    go_wp2_with fail
    go_ret
    exact ⟨by rw [← HX.out]; rfl, H0.out.2⟩
  by_cases h5 : s = 5
  · subst h5
    have HX : Hid (({ data := #[100, 114, 97, 105, 110, 101, 100] } : ByteArray) = X) := Lib.hid (by rw [← hX]; rfl)
    clear hX
    go_enter Tryz.func13, Tryz.ntmps13
    go_upto_region 2 with fail
    revert H0
    generalize (w.alloc (.cells #[.string { data := #[114, 117, 110] }, .string { data := #[100, 111, 110, 101] }, .string { data := #[102, 97, 105, 108, 101, 100] }, .string { data := #[100, 101, 97, 100, 108, 105, 110, 101] }, .string { data := #[111, 118, 101, 114, 102, 108, 111, 119] }, .string { data := #[100, 114, 97, 105, 110, 101, 100] }] 9)) = W0
    intro H0
    have c5 := H0.out.1.cell (i := 5) rfl
    go_wp2_with fail
    go_ret
    exact ⟨by rw [← HX.out]; rfl, H0.out.2⟩
  have HX : Hid (({ data := #[] } : ByteArray) = X) := Lib.hid (by rw [← hX]; unfold Le.word; rw [if_neg h0, if_neg h1, if_neg h2, if_neg h3, if_neg h4, if_neg h5])
  by_cases hl : s < 0
  · clear hX h0 h1 h2 h3 h4 h5
    go_enter Tryz.func13, Tryz.ntmps13
    go_upto_region 2 with fail
    revert H0
    generalize (w.alloc (.cells #[.string { data := #[114, 117, 110] }, .string { data := #[100, 111, 110, 101] }, .string { data := #[102, 97, 105, 108, 101, 100] }, .string { data := #[100, 101, 97, 100, 108, 105, 110, 101] }, .string { data := #[111, 118, 101, 114, 102, 108, 111, 119] }, .string { data := #[100, 114, 97, 105, 110, 101, 100] }] 9)) = W0
    intro H0
    go_wp2_with fail
    go_ret
    exact ⟨by rw [← HX.out]; rfl, H0.out.2⟩
  · have hg : (5 : Int) < s := by omega
    clear hX h0 h1 h2 h3 h4 h5
    go_enter Tryz.func13, Tryz.ntmps13
    go_upto_region 2 with fail
    revert H0
    generalize (w.alloc (.cells #[.string { data := #[114, 117, 110] }, .string { data := #[100, 111, 110, 101] }, .string { data := #[102, 97, 105, 108, 101, 100] }, .string { data := #[100, 101, 97, 100, 108, 105, 110, 101] }, .string { data := #[111, 118, 101, 114, 102, 108, 111, 119] }, .string { data := #[100, 114, 97, 105, 110, 101, 100] }] 9)) = W0
    intro H0
    go_wp2_with fail
    go_ret
    exact ⟨by rw [← HX.out]; rfl, H0.out.2⟩
end Go.Proofs.YtfhhkmjjifbfeaaGreatDoor
