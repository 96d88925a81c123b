/- What the layer's literal comes to (package ring), and a copy of a ring. -/
import Derived.Test.YtbgheljihjajdaaRing3
namespace Go.Proofs.Ytbgheljihjajdaa
open Go.ChangeShapes Go.WideShapes Go.ChangeAt Go.RowKit
set_option linter.unusedSimpArgs false
set_option linter.unusedVariables false

set_option maxHeartbeats 1000000 in
theorem lives_any (w : World) : Calls Try.prog 16 #[] w fun e w' => e = .returned (.bool true) ∧ Below w.heap.size w w' := by
  go_enter Try.func16, Try.ntmps16
  go_wp2_with fail
  refine (new_any 3 3 w (by decide)).mono ?_
  rintro e w1 ⟨rfl, r1, b1⟩
  have R1 := Lib.hid r1
  have B1 := Lib.hid b1
  clear r1 b1
  go_wp2_with fail
  refine (put_any (w.heap.size + 1) w.heap.size 3 0 _ ⟨#[97, 98, 99, 100]⟩ _ (by decide) R1.out).mono ?_
  rintro e w2 ⟨rfl, r2, c2⟩
  have R2 : Hid (RAt w2 (w.heap.size + 1) w.heap.size 3 0 ⟨#[97, 98, 99]⟩) := r2
  have B2 := Lib.hid (c2.onto B1.out B1.out.size (by simp))
  have S2 : w.heap.size ≤ w2.heap.size := Nat.le_trans B1.out.size c2.size
  clear r2 c2 B1 R1
  have e1 : ((min (ByteArray.size ⟨#[97, 98, 99, 100]⟩) (3 - ByteArray.empty.size) : Nat) : Int) = 3 := by decide
  rw [e1]
  clear e1
  go_wp2_with fail
  refine (take_any (w.heap.size + 1) w.heap.size 3 0 _ 2 _ R2.out).mono ?_
  rintro e w3 ⟨f3, rfl, r3, c3⟩
  have R3 : Hid (RAt w3 (w.heap.size + 1) w.heap.size 3 f3 ⟨#[99]⟩) := r3
  have B3 := Lib.hid (c3.onto B2.out S2 (by simp))
  have S3 : w.heap.size ≤ w3.heap.size := Nat.le_trans S2 c3.size
  clear r3 c3 B2 R2
  have e2 : (⟨#[97, 98, 99]⟩ : ByteArray).extract 0 (clN 2 (ByteArray.size ⟨#[97, 98, 99]⟩)) = ⟨#[97, 98]⟩ := by decide
  rw [e2]
  clear e2
  go_wp2_with fail
  refine (put_any (w.heap.size + 1) w.heap.size 3 f3 _ ⟨#[100, 101]⟩ _ (by decide) R3.out).mono ?_
  rintro e w4 ⟨rfl, r4, c4⟩
  have R4 : Hid (RAt w4 (w.heap.size + 1) w.heap.size 3 f3 ⟨#[99, 100, 101]⟩) := r4
  have B4 := Lib.hid (c4.onto B3.out S3 (by simp))
  have S4 : w.heap.size ≤ w4.heap.size := Nat.le_trans S3 c4.size
  clear r4 c4 B3 R3
  have e3 : ((min (ByteArray.size ⟨#[100, 101]⟩) (3 - ByteArray.size ⟨#[99]⟩) : Nat) : Int) = 2 := by decide
  rw [e3]
  clear e3
  go_wp2_with fail
  refine (peek_any (w.heap.size + 1) w.heap.size 3 f3 _ 1 9 _ R4.out).mono ?_
  rintro e w5 ⟨rfl, c5⟩
  have B5 := Lib.hid (B4.out.trans (c5.mono S4))
  have e4 : pk ⟨#[99, 100, 101]⟩ 1 9 = ⟨#[100, 101]⟩ := by decide
  rw [e4]
  clear e4 c5
  go_wp2
  go_ret
  exact ⟨rfl, B5.out⟩
set_option maxHeartbeats 1000000 in
theorem copy_any (b g n f : Nat) (S : ByteArray) (w : World) (h : RAt w b g n f S) :
    Calls Try.prog 20 #[.pointer (some ⟨b, 0, none⟩)] w fun e w' => ∃ b' g', w.heap.size ≤ b' ∧ w.heap.size ≤ g' ∧ e = .returned (.pointer (some ⟨b', 0, none⟩)) ∧ RAt w' b' g' n 0 S ∧ Below w.heap.size w w' := by
  have hmk : ∀ W, (Instr.makeSlice 44 (.int .i64 n) (.int .i64 n)).run Try.prog W = .ok (.slice (some ⟨W.heap.size, 0, none⟩) n n) (W.alloc (.cells (List.replicate n (.int .u8 0)).toArray 5)) := fun W =>
    run_make_blk W _ _ _ Try.underlying44 1 info5 rfl n n (Nat.le_refl _) (by have := h.2.1; omega) (by have := h.2.1; omega)
  have HR := Lib.hid h
  obtain ⟨h1, h2, h3, h4, h5, h6, R, h7, h8, h9⟩ := h
  have hbl := h6.lt
  have hgl := h8.lt
  have c0 := h6.cell (i := 0) rfl
  have c2 := h6.cell (i := 2) rfl
  clear h9
  go_enter Try.func20, Try.ntmps20
  go_wp2_with fail
  have hW : Hid (RAt ((w.alloc (Obj.cells (Array.replicate n (Value.int IntKind.u8 0)) 5)).alloc (Obj.cells #[.slice (some ⟨w.heap.size, 0, none⟩) n n, .int .i64 0, .int .i64 0] 54)) b g n f S ∧
      RAt ((w.alloc (Obj.cells (Array.replicate n (Value.int IntKind.u8 0)) 5)).alloc (Obj.cells #[.slice (some ⟨w.heap.size, 0, none⟩) n n, .int .i64 0, .int .i64 0] 54)) (w.heap.size + 1) w.heap.size n 0 ByteArray.empty ∧
      Below w.heap.size w ((w.alloc (Obj.cells (Array.replicate n (Value.int IntKind.u8 0)) 5)).alloc (Obj.cells #[.slice (some ⟨w.heap.size, 0, none⟩) n n, .int .i64 0, .int .i64 0] 54))) := by
    have hbel : Below w.heap.size w ((w.alloc (Obj.cells (Array.replicate n (Value.int IntKind.u8 0)) 5)).alloc (Obj.cells #[.slice (some ⟨w.heap.size, 0, none⟩) n n, .int .i64 0, .int .i64 0] 54)) := ((Below.refl _ _).alloc (Nat.le_refl _) _).alloc (by simp) _
    refine ⟨HR.out.fresh hbel, ⟨h1, h2, by omega, by simp, by omega, ?_, List.replicate n (.int .u8 0), by simp, ?_, fun i hi => absurd hi (by simp)⟩, hbel⟩
    · have := Blk.newA (w.alloc (Obj.cells (Array.replicate n (Value.int IntKind.u8 0)) 5)) #[.slice (some ⟨w.heap.size, 0, none⟩) n n, .int .i64 0, .int .i64 0] 54
      simpa using this
    · have := (Blk.newA w (Array.replicate n (Value.int IntKind.u8 0)) 5).alloc (Obj.cells #[.slice (some ⟨w.heap.size, 0, none⟩) n n, .int .i64 0, .int .i64 0] 54)
      rw [Array.toList_replicate] at this
      exact this
  clear c0 c2 h6 h7 h8 HR
  revert hW
  generalize ((w.alloc (Obj.cells (Array.replicate n (Value.int IntKind.u8 0)) 5)).alloc (Obj.cells #[.slice (some ⟨w.heap.size, 0, none⟩) n n, .int .i64 0, .int .i64 0] 54)) = W1
  intro hW
  refine (peek_any b g n f S 0 S.size _ hW.out.1).mono ?_
  rintro e w1 ⟨rfl, b1⟩
  have hp : pk S 0 (S.size : Int) = S := by
    rw [pk_zero, show clN (S.size : Int) S.size = S.size by (unfold clN; rw [if_neg (by omega)]; omega), cut_whole]
  rw [hp]
  have hbz := hW.out.2.2.size
  have hV : Hid (RAt w1 (w.heap.size + 1) w.heap.size n 0 ByteArray.empty ∧ Below w.heap.size w w1) := ⟨hW.out.2.1.fresh b1, hW.out.2.2.trans (b1.mono hbz)⟩
  clear hp hW b1
  go_wp2_with fail
  refine (put_any (w.heap.size + 1) w.heap.size n 0 ByteArray.empty S w1 (by omega) hV.out.1).mono ?_
  rintro e w2 ⟨rfl, r2, c2⟩
  have hU : Hid (RAt w2 (w.heap.size + 1) w.heap.size n 0 S ∧ Below w.heap.size w w2) := by
    have e0 : min S.size (n - ByteArray.empty.size) = S.size := by simp; omega
    rw [e0, cut_whole, ByteArray.empty_append] at r2
    exact ⟨r2, c2.onto hV.out.2 hV.out.2.size (by simp)⟩
  clear r2 c2 hV
  go_wp2
  go_ret
  exact ⟨_, _, by omega, Nat.le_refl _, rfl, hU.out.1, hU.out.2⟩
end Go.Proofs.Ytbgheljihjajdaa
