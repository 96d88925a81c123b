/- Heap: earlier. -/
import Derived.Test.YtbdjcppkfihonaaHe1
import Derived.Test.YtbdjcppkfihonaaBlk
import Derived.Test.YtbdjcppkfihonaaStage
import Derived.WalkKit
import Derived.ProofKit
import Derived.Handy
import Derived.WalkLawsBesides
import Derived.WalkSpells
import Derived.Lib.Hide
import Derived.RegionTactic
import Derived.ChangeAlike
import Derived.WalkSmall
import Derived.Deep.QuietTactic
import Derived.BigQuiet
import Derived.OwnWalk
import Derived.Outline
import Derived.Deep.CutRange
import Derived.Deep.CutBlock
import Derived.LoopTactic
namespace Go.Proofs.Ytbdjcppkfihonaa
open Go.ChangeShapes Go.WideShapes Go.ChangeAt Go.RowKit
set_option linter.unusedSimpArgs false
set_option linter.unusedVariables false

/-- Two entries held against each other: by tick, then by number. -/
def He.cmp (a b : Int × Int) : Int := if Lib.compareInt a.1 b.1 = 0 then Lib.compareInt a.2 b.2 else Lib.compareInt a.1 b.1
/-- Two entries in blocks A and B; once made, two numbers in block h. -/
structure ES (w : World) (A B h : Nat) (a1 a2 b1 b2 x y : Int) (L : Nat → Bool) (w' : World) : Prop where
  c0 : w'.cell? ⟨A, 0, none⟩ = some (.int .i64 a1)
  c1 : w'.cell? ⟨A, 1, none⟩ = some (.int .i64 a2)
  c2 : w'.cell? ⟨B, 0, none⟩ = some (.int .i64 b1)
  c3 : w'.cell? ⟨B, 1, none⟩ = some (.int .i64 b2)
  lt : A < h ∧ B < h ∧ w.heap.size ≤ h
  sz : L 10 = false → w'.heap.size = h
  le : h ≤ w'.heap.size
  s0 : L 10 = true → w'.cell? ⟨h, 0, none⟩ = some (.int .i64 x)
  s1 : L 10 = true → w'.cell? ⟨h, 1, none⟩ = some (.int .i64 y)
  bw : Below w.heap.size w w'
theorem ES.other {w w' : World} {A B h : Nat} {a1 a2 b1 b2 x y : Int} {L : Nat → Bool} {i : Nat} (H : ES w A B h a1 a2 b1 b2 x y L w') (hi : 10 ≠ i) : ES w A B h a1 a2 b1 b2 x y (doneL L i) w' :=
  ⟨H.c0, H.c1, H.c2, H.c3, H.lt, by rw [doneL_other L hi]; exact H.sz, H.le, by rw [doneL_other L hi]; exact H.s0, by rw [doneL_other L hi]; exact H.s1, H.bw⟩
theorem ES.made {w w' : World} {A B h : Nat} {a1 a2 b1 b2 x y : Int} {L : Nat → Bool} (H : ES w A B h a1 a2 b1 b2 x y L w') (hL : L 10 = false) (T : TypeId) : ES w A B h a1 a2 b1 b2 x y (doneL L 10) (w'.alloc (.cells #[.int .i64 x, .int .i64 y] T)) := by
  have hs := H.sz hL
  have hb : Below w'.heap.size w' (w'.alloc (.cells #[.int .i64 x, .int .i64 y] T)) := (Below.refl _ _).alloc (Nat.le_refl _) _
  have hn := Blk.newA w' #[.int .i64 x, .int .i64 y] T
  rw [hs] at hn
  have hA := H.lt.1
  have hB := H.lt.2.1
  refine ⟨(hb.cell (p := ⟨A, 0, none⟩) (by show A < _; omega)).trans H.c0, (hb.cell (p := ⟨A, 1, none⟩) (by show A < _; omega)).trans H.c1, (hb.cell (p := ⟨B, 0, none⟩) (by show B < _; omega)).trans H.c2, (hb.cell (p := ⟨B, 1, none⟩) (by show B < _; omega)).trans H.c3, H.lt, fun hc => ?_, ?_, fun _ => hn.cell (i := 0) rfl, fun _ => hn.cell (i := 1) rfl, H.bw.alloc H.bw.size _⟩
  · rw [doneL_same] at hc; cases hc
  · rw [World.size_alloc]; omega
set_option maxRecDepth 20000 in
set_option maxHeartbeats 4000000 in
theorem he_earlier (a1 a2 b1 b2 r : Int) (hr : He.cmp (a1, a2) (b1, b2) = r) (w : World) : Calls Try.prog 55 #[.agg #[.int .i64 a1, .int .i64 a2], .agg #[.int .i64 b1, .int .i64 b2]] w fun e w' => e = .returned (.int .i64 r) ∧ Below w.heap.size w w' := by
  obtain ⟨x, hx⟩ : ∃ x, Lib.compareInt a1 b1 = x := ⟨_, rfl⟩
  obtain ⟨y, hy⟩ : ∃ y, Lib.compareInt a2 b2 = y := ⟨_, rfl⟩
  obtain ⟨h, hh⟩ : ∃ h, w.heap.size + 2 = h := ⟨_, rfl⟩
  have HR : Hid (Lib.compareInt a1 b1 = x ∧ Lib.compareInt a2 b2 = y ∧ r = if x = 0 then y else x) := Lib.hid ⟨hx, hy, by rw [← hr]; unfold He.cmp; dsimp only; rw [hx, hy]⟩
  have HH := Lib.hid hh
  clear hr hx hy hh
  go_enter Try.func55, Try.ntmps55
  go_upto_region 1 with fail
  have HB : Hid (ES w w.heap.size (w.heap.size + 1) h a1 a2 b1 b2 x y (fun _ => false) (((w.alloc (.cells #[.int .i64 a1, .int .i64 a2] 38)).alloc (.cells #[.int .i64 b1, .int .i64 b2] 38)).drew)) := Lib.hid (by
    have k1 := Blk.chg (Blk.newA w #[.int .i64 a1, .int .i64 a2] 38) ((Chg.refl [] _).alloc (.cells #[.int .i64 b1, .int .i64 b2] 38)) (by simp)
    have k2 := Blk.newA (w.alloc (.cells #[.int .i64 a1, .int .i64 a2] 38)) #[.int .i64 b1, .int .i64 b2] 38
    rw [World.size_alloc] at k2
    have hh := HH.out
    exact ⟨k1.cell (i := 0) rfl, k1.cell (i := 1) rfl, k2.cell (i := 0) rfl, k2.cell (i := 1) rfl, by omega, fun _ => by show ((w.alloc _).alloc _).heap.size = h; rw [World.size_alloc, World.size_alloc]; omega, by show h ≤ ((w.alloc _).alloc _).heap.size; rw [World.size_alloc, World.size_alloc]; omega, fun hc => (by cases hc), fun hc => (by cases hc), (((Below.refl _ _).alloc (Nat.le_refl _) _).alloc (by simp) _).drew⟩)
  refine wp_region_stages (ES w w.heap.size (w.heap.size + 1) h a1 a2 b1 b2 x y) (by kernel_rfl) (by kernel_rfl) (by kernel_rfl) HB.out ?_
  clear HB
  refine wpSt_step (fun K hK => ?_)
  rw [if_pos (by simp [Region.wanted])]
  apply Exists.intro
  refine ⟨fun L wq hcl hL0 hpr hC => ?_, ?_⟩
  · have d0 := hC.c0
    have d1 := hC.c1
    have d2 := hC.c2
    have d3 := hC.c3
    go_simp
    exact upSt_value rfl (hC.other (by decide))
  simp only [Act.put, List.setIfInBounds_toArray, List.set_cons_zero, List.set_cons_succ]
  refine hK _ ?_
  clear hK K
  refine wpSt_step (fun K hK => ?_)
  rw [if_pos (by simp [Region.wanted])]
  apply Exists.intro
  refine ⟨fun L wq hcl hL0 hpr hC => ?_, ?_⟩
  · have d0 := hC.c0
    have d1 := hC.c1
    have d2 := hC.c2
    have d3 := hC.c3
    go_simp
    exact upSt_value rfl (hC.other (by decide))
  simp only [Act.put, List.setIfInBounds_toArray, List.set_cons_zero, List.set_cons_succ]
  refine hK _ ?_
  clear hK K
  refine wpSt_step (fun K hK => ?_)
  rw [if_pos (by simp [Region.wanted])]
  apply Exists.intro
  refine ⟨fun L wq hcl hL0 hpr hC => ?_, ?_⟩
  · have d0 := hC.c0
    have d1 := hC.c1
    have d2 := hC.c2
    have d3 := hC.c3
    go_simp
    exact upSt_value rfl (hC.other (by decide))
  simp only [Act.put, List.setIfInBounds_toArray, List.set_cons_zero, List.set_cons_succ]
  refine hK _ ?_
  clear hK K
  refine wpSt_step (fun K hK => ?_)
  rw [if_pos (by simp [Region.wanted])]
  apply Exists.intro
  refine ⟨fun L wq hcl hL0 hpr hC => ?_, ?_⟩
  · have d0 := hC.c0
    have d1 := hC.c1
    have d2 := hC.c2
    have d3 := hC.c3
    go_simp
    exact upSt_value rfl (hC.other (by decide))
  simp only [Act.put, List.setIfInBounds_toArray, List.set_cons_zero, List.set_cons_succ]
  refine hK _ ?_
  clear hK K
  refine wpSt_step (fun K hK => ?_)
  rw [if_pos (by simp [Region.wanted])]
  apply Exists.intro
  refine ⟨fun L wq hcl hL0 hpr hC => ?_, ?_⟩
  · go_simp
    simp only [upSt]
    go_at_call 70
    refine (he_cmp64 a1 b1 _).mono ?_
    rintro e W1 ⟨rfl, rfl⟩
    exact ⟨by rw [HR.out.1], hC.other (by decide)⟩
  simp only [Act.put, List.setIfInBounds_toArray, List.set_cons_zero, List.set_cons_succ]
  refine hK _ ?_
  clear hK K
  refine wpSt_step (fun K hK => ?_)
  rw [if_pos (by simp [Region.wanted])]
  apply Exists.intro
  refine ⟨fun L wq hcl hL0 hpr hC => ?_, ?_⟩
  · have d0 := hC.c0
    have d1 := hC.c1
    have d2 := hC.c2
    have d3 := hC.c3
    go_simp
    exact upSt_value rfl (hC.other (by decide))
  simp only [Act.put, List.setIfInBounds_toArray, List.set_cons_zero, List.set_cons_succ]
  refine hK _ ?_
  clear hK K
  refine wpSt_step (fun K hK => ?_)
  rw [if_pos (by simp [Region.wanted])]
  apply Exists.intro
  refine ⟨fun L wq hcl hL0 hpr hC => ?_, ?_⟩
  · have d0 := hC.c0
    have d1 := hC.c1
    have d2 := hC.c2
    have d3 := hC.c3
    go_simp
    exact upSt_value rfl (hC.other (by decide))
  simp only [Act.put, List.setIfInBounds_toArray, List.set_cons_zero, List.set_cons_succ]
  refine hK _ ?_
  clear hK K
  refine wpSt_step (fun K hK => ?_)
  rw [if_pos (by simp [Region.wanted])]
  apply Exists.intro
  refine ⟨fun L wq hcl hL0 hpr hC => ?_, ?_⟩
  · have d0 := hC.c0
    have d1 := hC.c1
    have d2 := hC.c2
    have d3 := hC.c3
    go_simp
    exact upSt_value rfl (hC.other (by decide))
  simp only [Act.put, List.setIfInBounds_toArray, List.set_cons_zero, List.set_cons_succ]
  refine hK _ ?_
  clear hK K
  refine wpSt_step (fun K hK => ?_)
  rw [if_pos (by simp [Region.wanted])]
  apply Exists.intro
  refine ⟨fun L wq hcl hL0 hpr hC => ?_, ?_⟩
  · have d0 := hC.c0
    have d1 := hC.c1
    have d2 := hC.c2
    have d3 := hC.c3
    go_simp
    exact upSt_value rfl (hC.other (by decide))
  simp only [Act.put, List.setIfInBounds_toArray, List.set_cons_zero, List.set_cons_succ]
  refine hK _ ?_
  clear hK K
  refine wpSt_step (fun K hK => ?_)
  rw [if_pos (by simp [Region.wanted])]
  apply Exists.intro
  refine ⟨fun L wq hcl hL0 hpr hC => ?_, ?_⟩
  · go_simp
    simp only [upSt]
    go_at_call 71
    refine (Try.cmp_Compare_int a2 b2 _).mono ?_
    rintro e W1 ⟨rfl, rfl⟩
    exact ⟨by rw [HR.out.2.1], hC.other (by decide)⟩
  simp only [Act.put, List.setIfInBounds_toArray, List.set_cons_zero, List.set_cons_succ]
  refine hK _ ?_
  clear hK K
  refine wpSt_step (fun K hK => ?_)
  rw [if_pos (by simp [Region.wanted])]
  apply Exists.intro
  refine ⟨fun L wq hcl hL0 hpr hC => ?_, ?_⟩
  · have hsz := hC.sz hL0
    go_simp
    exact upSt_value rfl (hC.made hL0 _)
  simp only [Act.put, List.setIfInBounds_toArray, List.set_cons_zero, List.set_cons_succ]
  refine hK _ ?_
  clear hK K
  refine wpSt_step (fun K hK => ?_)
  rw [if_pos (by simp [Region.wanted])]
  apply Exists.intro
  refine ⟨fun L wq hcl hL0 hpr hC => ?_, ?_⟩
  · have h10 : L 10 = true := by
      first
        | exact hpr _ (by simp) rfl
        | (unfold PredIn at hpr; simp [Region.binds] at hpr; exact hpr.1)
    go_simp
    simp only [upSt]
    go_at_call 69
    with_reducible refine (he_or h 2 x y r HR.out.2.2 _ (hC.s0 h10) (hC.s1 h10)).mono ?_
    rintro e W1 ⟨rfl, rfl⟩
    exact ⟨rfl, hC.other (by decide)⟩
  simp only [Act.put, List.setIfInBounds_toArray, List.set_cons_zero, List.set_cons_succ]
  refine hK _ ?_
  clear hK K
  refine wpSt_step (fun K hK => ?_)
  rw [if_pos (by simp [Region.wanted])]
  apply Exists.intro
  refine ⟨fun L wq hcl hL0 hpr hC => ?_, ?_⟩
  · have d0 := hC.c0
    have d1 := hC.c1
    have d2 := hC.c2
    have d3 := hC.c3
    go_simp
    exact upSt_value rfl (hC.other (by decide))
  simp only [Act.put, List.setIfInBounds_toArray, List.set_cons_zero, List.set_cons_succ]
  refine hK _ ?_
  clear hK K
  refine wpSt_nil ?_
  intro w4 hw4
  have HE := Lib.hid hw4.bw
  clear hw4
  go_wp2
  go_ret
  exact ⟨rfl, HE.out⟩
end Go.Proofs.Ytbdjcppkfihonaa
