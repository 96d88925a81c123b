/- P3.2: for every a, b and n: a copy of a ring shares nothing with the one. No condition. -/
import Derived.Test.YtbgheljihjajdaaOpen
import Derived.WalkKit
import Derived.ProofKit
import Derived.OpenShut
import Derived.Test.YtbgheljihjajdaaRingRef
namespace Go.Proofs.Ytbgheljihjajdaa.ringCopies
open Go.Joins Go.ChangeShapes Go.WideShapes Go.ChangeAt Go.RowKit Go.Deep
open Go.ChangeMaps (open_string)
set_option linter.unusedSimpArgs false
set_option linter.unusedVariables false

theorem pk_all (S : ByteArray) (h : S.size ≤ 12) : pk S 0 12 = S := by
  rw [pk_zero, show clN 12 S.size = S.size by (unfold clN; rw [if_neg (by omega)]; omega), cut_whole]
theorem empty_on (S : ByteArray) : (⟨#[]⟩ : ByteArray) ++ S = S := by
  have : (⟨#[]⟩ : ByteArray) = ByteArray.empty := rfl
  rw [this, ByteArray.empty_append]
set_option maxHeartbeats 2000000 in

theorem walk (a0 : ByteArray) (a1 : ByteArray) (a2 : Int) (w : World) (w0 : a0.size ≤ maxLen) (w1 : a1.size ≤ maxLen) (w2 : (Lit.int .i64 a2).wf = true) :
    Calls Try.prog 5 #[.string a0, .string a1, .int .i64 a2] w fun e w' => e = .returned (.bool true) ∧ Below w.heap.size w w' := by
  unfold maxLen at w0 w1
  obtain ⟨A, hA⟩ : ∃ A, a0.extract 0 20 = A := ⟨_, rfl⟩
  obtain ⟨B, hB⟩ : ∃ B, a1.extract 0 20 = B := ⟨_, rfl⟩
  have zA : A.size ≤ 20 := by rw [← hA, ByteArray.size_extract]; omega
  have zB : B.size ≤ 20 := by rw [← hB, ByteArray.size_extract]; omega
  have HA := Lib.hid hA
  have HB := Lib.hid hB
  clear hA hB
  obtain ⟨A1, hA1⟩ : ∃ A1, A.extract 0 (min A.size 12) = A1 := ⟨_, rfl⟩
  have zA1 : A1.size ≤ 12 := by rw [← hA1, ByteArray.size_extract]; omega
  have HA1 := Lib.hid hA1
  obtain ⟨S1, hS1⟩ : ∃ S1, A1.extract (clN 3 A1.size) A1.size = S1 := ⟨_, rfl⟩
  have zS1 : S1.size ≤ 12 := by rw [← hS1, ByteArray.size_extract]; omega
  have HS1 := Lib.hid hS1
  obtain ⟨S2, hS2⟩ : ∃ S2, S1.extract (clN a2 S1.size) S1.size = S2 := ⟨_, rfl⟩
  have zS2 : S2.size ≤ 12 := by rw [← hS2, ByteArray.size_extract]; omega
  have HS2 := Lib.hid hS2
  obtain ⟨S3, hS3⟩ : ∃ S3, S2 ++ B.extract 0 (min B.size (12 - S2.size)) = S3 := ⟨_, rfl⟩
  have zS3 : S3.size ≤ 12 := by rw [← hS3, ByteArray.size_append, ByteArray.size_extract]; omega
  have HS3 := Lib.hid hS3
  have P1 := Lib.hid (pk_all S1 zS1)
  have P3 := Lib.hid (pk_all S3 zS3)
  clear hA1 hS1 hS2 hS3
  go_enter Try.func5, Try.ntmps5
  go_wp2_with (go_at_call 10; refine (cut_any _ (by omega) 20 (by omega) _).mono ?_; rintro e w' ⟨rfl, rfl⟩)
  rw [HA.out, HB.out]
  refine (new_any 12 12 w (by decide)).mono ?_
  rintro e u1 ⟨rfl, r1, b1⟩
  have F1 : Hid (RAt u1 (w.heap.size + 1) w.heap.size 12 0 ByteArray.empty ∧ Below w.heap.size w u1) := ⟨r1, b1⟩
  clear r1 b1
  go_wp2_with fail
  refine (put_any _ _ 12 0 _ A _ (by omega) F1.out.1).mono ?_
  rintro e u2 ⟨rfl, r2, c2⟩
  have F2 : Hid (RAt u2 (w.heap.size + 1) w.heap.size 12 0 A1 ∧ Below w.heap.size w u2) := by
    have e0 : min A.size (12 - ByteArray.empty.size) = min A.size 12 := by simp
    rw [e0, HA1.out, ByteArray.empty_append] at r2
    exact ⟨r2, c2.onto F1.out.2 F1.out.2.size (by simp)⟩
  clear r2 c2 F1
  go_wp2_with fail
  refine (take_any _ _ 12 0 _ 3 _ F2.out.1).mono ?_
  rintro e u3 ⟨f3, rfl, r3, c3⟩
  have F3 : Hid (RAt u3 (w.heap.size + 1) w.heap.size 12 f3 S1 ∧ Below w.heap.size w u3) := by
    rw [HS1.out] at r3
    exact ⟨r3, c3.onto F2.out.2 F2.out.2.size (by simp)⟩
  clear r3 c3 F2
  go_wp2_with fail
  refine (copy_any _ _ 12 f3 _ _ F3.out.1).mono ?_
  rintro e u4 ⟨b, g, hb, hg, rfl, r4, b4⟩
  have F4 : Hid (RAt u4 (w.heap.size + 1) w.heap.size 12 f3 S1 ∧ RAt u4 b g 12 0 S1 ∧ Below w.heap.size w u4 ∧ b ≠ w.heap.size + 1 ∧ b ≠ w.heap.size ∧ g ≠ w.heap.size + 1 ∧ g ≠ w.heap.size ∧ w.heap.size ≤ b ∧ w.heap.size ≤ g) := by
    have l1 := F3.out.1.2.2.2.2.2.1.lt
    have l2 := F3.out.2.size
    exact ⟨F3.out.1.fresh b4, r4, F3.out.2.trans (b4.mono l2), by omega, by omega, by omega, by omega, by omega, by omega⟩
  clear r4 b4 F3 hb hg
  go_wp2_with fail
  refine (peek_any _ _ 12 f3 _ 0 12 _ F4.out.1).mono ?_
  rintro e u5 ⟨rfl, b5⟩
  rw [P1.out]
  have F5 : Hid (RAt u5 (w.heap.size + 1) w.heap.size 12 f3 S1 ∧ RAt u5 b g 12 0 S1 ∧ Below w.heap.size w u5 ∧ b ≠ w.heap.size + 1 ∧ b ≠ w.heap.size ∧ g ≠ w.heap.size + 1 ∧ g ≠ w.heap.size ∧ w.heap.size ≤ b ∧ w.heap.size ≤ g) :=
    ⟨F4.out.1.fresh b5, F4.out.2.1.fresh b5, F4.out.2.2.1.trans (b5.mono F4.out.2.2.1.size), F4.out.2.2.2⟩
  clear b5 F4
  go_wp2_with fail
  refine (take_any _ _ 12 0 _ a2 _ F5.out.2.1).mono ?_
  rintro e u6 ⟨f6, rfl, r6, c6⟩
  have F6 : Hid (RAt u6 (w.heap.size + 1) w.heap.size 12 f3 S1 ∧ RAt u6 b g 12 f6 S2 ∧ Below w.heap.size w u6 ∧ b ≠ w.heap.size + 1 ∧ b ≠ w.heap.size ∧ g ≠ w.heap.size + 1 ∧ g ≠ w.heap.size ∧ w.heap.size ≤ b ∧ w.heap.size ≤ g) := by
    rw [HS2.out] at r6
    obtain ⟨k1, k2, k3, k4, k5, k6, k7, k8, k9⟩ := F5.out
    exact ⟨k1.chg c6 (by simp; omega) (by simp; omega), r6, c6.onto k3 k3.size (by simp; omega), k4, k5, k6, k7, k8, k9⟩
  clear r6 c6 F5
  go_wp2_with fail
  refine (put_any _ _ 12 f6 _ B _ (by omega) F6.out.2.1).mono ?_
  rintro e u7 ⟨rfl, r7, c7⟩
  have F7 : Hid (RAt u7 (w.heap.size + 1) w.heap.size 12 f3 S1 ∧ RAt u7 b g 12 f6 S3 ∧ Below w.heap.size w u7 ∧ b ≠ w.heap.size + 1 ∧ b ≠ w.heap.size ∧ g ≠ w.heap.size + 1 ∧ g ≠ w.heap.size ∧ w.heap.size ≤ b ∧ w.heap.size ≤ g) := by
    rw [HS3.out] at r7
    obtain ⟨k1, k2, k3, k4, k5, k6, k7, k8, k9⟩ := F6.out
    exact ⟨k1.chg c7 (by simp; omega) (by simp; omega), r7, c7.onto k3 k3.size (by simp; omega), k4, k5, k6, k7, k8, k9⟩
  clear r7 c7 F6
  go_wp2_with fail
  refine (peek_any _ _ 12 f6 _ 0 12 _ F7.out.2.1).mono ?_
  rintro e u8 ⟨rfl, b8⟩
  rw [P3.out]
  have F8 : Hid (RAt u8 (w.heap.size + 1) w.heap.size 12 f3 S1 ∧ RAt u8 b g 12 f6 S3 ∧ Below w.heap.size w u8 ∧ b ≠ w.heap.size + 1 ∧ b ≠ w.heap.size ∧ g ≠ w.heap.size + 1 ∧ g ≠ w.heap.size ∧ w.heap.size ≤ b ∧ w.heap.size ≤ g) :=
    ⟨F7.out.1.fresh b8, F7.out.2.1.fresh b8, F7.out.2.2.1.trans (b8.mono F7.out.2.2.1.size), F7.out.2.2.2⟩
  clear b8 F7
  go_wp2_with fail
  refine (take_any _ _ 12 f3 _ 2 _ F8.out.1).mono ?_
  rintro e u9 ⟨f9, rfl, r9, c9⟩
  obtain ⟨S9, hS9⟩ : ∃ S9, S1.extract (clN 2 S1.size) S1.size = S9 := ⟨_, rfl⟩
  have F9 : Hid (RAt u9 (w.heap.size + 1) w.heap.size 12 f9 S9 ∧ RAt u9 b g 12 f6 S3 ∧ Below w.heap.size w u9 ∧ b ≠ w.heap.size + 1 ∧ b ≠ w.heap.size ∧ g ≠ w.heap.size + 1 ∧ g ≠ w.heap.size ∧ w.heap.size ≤ b ∧ w.heap.size ≤ g) := by
    rw [hS9] at r9
    obtain ⟨k1, k2, k3, k4, k5, k6, k7, k8, k9⟩ := F8.out
    exact ⟨r9, k2.chg c9 (by simp; omega) (by simp; omega), c9.onto k3 k3.size (by simp), k4, k5, k6, k7, k8, k9⟩
  clear r9 c9 F8 hS9
  go_wp2_with fail
  refine (put_any _ _ 12 f9 _ ⟨#[122, 122, 122, 122, 122, 122, 122, 122, 122, 122, 122, 122]⟩ _ (by decide) F9.out.1).mono ?_
  rintro e u10 ⟨rfl, r10, c10⟩
  have F10 : Hid (RAt u10 b g 12 f6 S3 ∧ Below w.heap.size w u10) := by
    obtain ⟨k1, k2, k3, k4, k5, k6, k7, k8, k9⟩ := F9.out
    exact ⟨k2.chg c10 (by simp; omega) (by simp; omega), c10.onto k3 k3.size (by simp)⟩
  clear r10 c10 F9
  go_wp2_with fail
  refine (ref_new 12 12 (by decide) _).mono ?_
  rintro e u11 ⟨rfl, b11⟩
  have F11 : Hid (RAt u11 b g 12 f6 S3 ∧ Below w.heap.size w u11) := ⟨F10.out.1.fresh b11, F10.out.2.trans (b11.mono F10.out.2.size)⟩
  clear b11 F10
  go_wp2_with fail
  refine (ref_put ⟨#[]⟩ A 12 (min A.size 12) _ (by omega) (by decide) (by omega) rfl).mono ?_
  rintro e u12 ⟨rfl, b12⟩
  rw [empty_on, HA1.out]
  obtain ⟨X, hX⟩ : ∃ X, u11.heap.size = X := ⟨_, rfl⟩
  have F12 : Hid (Blk u12 X [.string ⟨#[]⟩, .int .i64 12] 28 ∧ RAt u12 b g 12 f6 S3 ∧ Below w.heap.size w u12 ∧ w.heap.size ≤ X ∧ b ≠ X ∧ g ≠ X) := by
    have hb0 : Below u11.heap.size u11 (u11.alloc (Obj.cells #[Value.string ⟨#[]⟩, Value.int .i64 12] 28)) := (Below.refl _ _).alloc (Nat.le_refl _) _
    have hn := Blk.newA u11 #[Value.string ⟨#[]⟩, Value.int .i64 12] 28
    have hs := F11.out.2.size
    have hb1 := F11.out.1.2.2.2.2.2.1.lt
    obtain ⟨_, _, _, _, _, _, R, _, hg1, _⟩ := F11.out.1
    have hg2 := hg1.lt
    rw [← hX]
    exact ⟨hn.below b12 (by simp), (F11.out.1.fresh hb0).fresh b12, (F11.out.2.trans (hb0.mono hs)).trans (b12.mono (by rw [World.size_alloc]; omega)), hs, by omega, by omega⟩
  rw [hX]
  clear b12 F11 hX
  have x0 := F12.out.1.cell (i := 0) rfl
  have x1 := F12.out.1.cell (i := 1) rfl
  have y0 := F12.out.1.free 0
  have y1 := F12.out.1.free 1
  go_wp2_with fail
  have F13 : Hid (Blk ((u12.setCell ⟨X, 0, none⟩ (.string A1)).setCell ⟨X, 1, none⟩ (.int .i64 12)) X [.string A1, .int .i64 12] 28 ∧ RAt ((u12.setCell ⟨X, 0, none⟩ (.string A1)).setCell ⟨X, 1, none⟩ (.int .i64 12)) b g 12 f6 S3 ∧ Below w.heap.size w ((u12.setCell ⟨X, 0, none⟩ (.string A1)).setCell ⟨X, 1, none⟩ (.int .i64 12)) ∧ w.heap.size ≤ X ∧ b ≠ X ∧ g ≠ X) := by
    obtain ⟨k1, k2, k3, k4, k5, k6⟩ := F12.out
    have kc : Chg [X] u12 ((u12.setCell ⟨X, 0, none⟩ (.string A1)).setCell ⟨X, 1, none⟩ (.int .i64 12)) := ((Chg.refl _ _).set (Or.inl (by simp)) _ _).set (Or.inl (by simp)) _ _
    exact ⟨(k1.set 0 _).set 1 _, k2.chg kc (by simpa using k5) (by simpa using k6), kc.onto k3 k3.size (by simpa using k4), k4, k5, k6⟩
  clear x0 x1 y0 y1 F12
  revert F13
  generalize ((u12.setCell ⟨X, 0, none⟩ (.string A1)).setCell ⟨X, 1, none⟩ (.int .i64 12)) = u13
  intro F13
  refine (ref_take A1 12 3 _ _ (by omega) rfl).mono ?_
  rintro e u14 ⟨rfl, b14⟩
  rw [HS1.out]
  have F14 : Hid (Blk u14 X [.string A1, .int .i64 12] 28 ∧ RAt u14 b g 12 f6 S3 ∧ Below w.heap.size w u14 ∧ w.heap.size ≤ X ∧ b ≠ X ∧ g ≠ X) := by
    obtain ⟨k1, k2, k3, k4⟩ := F13.out
    exact ⟨k1.below b14 k1.lt, k2.fresh b14, k3.trans (b14.mono k3.size), k4⟩
  clear b14 F13
  have x0 := F14.out.1.cell (i := 0) rfl
  have x1 := F14.out.1.cell (i := 1) rfl
  have y0 := F14.out.1.free 0
  have y1 := F14.out.1.free 1
  go_wp2_with fail
  have F15 : Hid (Blk ((u14.setCell ⟨X, 0, none⟩ (.string S1)).setCell ⟨X, 1, none⟩ (.int .i64 12)) X [.string S1, .int .i64 12] 28 ∧ RAt ((u14.setCell ⟨X, 0, none⟩ (.string S1)).setCell ⟨X, 1, none⟩ (.int .i64 12)) b g 12 f6 S3 ∧ Below w.heap.size w ((u14.setCell ⟨X, 0, none⟩ (.string S1)).setCell ⟨X, 1, none⟩ (.int .i64 12)) ∧ w.heap.size ≤ X ∧ b ≠ X ∧ g ≠ X) := by
    obtain ⟨k1, k2, k3, k4, k5, k6⟩ := F14.out
    have kc : Chg [X] u14 ((u14.setCell ⟨X, 0, none⟩ (.string S1)).setCell ⟨X, 1, none⟩ (.int .i64 12)) := ((Chg.refl _ _).set (Or.inl (by simp)) _ _).set (Or.inl (by simp)) _ _
    exact ⟨(k1.set 0 _).set 1 _, k2.chg kc (by simpa using k5) (by simpa using k6), kc.onto k3 k3.size (by simpa using k4), k4, k5, k6⟩
  clear x0 x1 y0 y1 F14
  revert F15
  generalize ((u14.setCell ⟨X, 0, none⟩ (.string S1)).setCell ⟨X, 1, none⟩ (.int .i64 12)) = u15
  intro F15
  refine (ref_take S1 12 a2 _ _ (by omega) rfl).mono ?_
  rintro e u16 ⟨rfl, b16⟩
  rw [HS2.out]
  have F16 : Hid (Blk u16 X [.string S1, .int .i64 12] 28 ∧ RAt u16 b g 12 f6 S3 ∧ Below w.heap.size w u16 ∧ w.heap.size ≤ X ∧ b ≠ X ∧ g ≠ X) := by
    obtain ⟨k1, k2, k3, k4⟩ := F15.out
    exact ⟨k1.below b16 k1.lt, k2.fresh b16, k3.trans (b16.mono k3.size), k4⟩
  clear b16 F15
  go_wp2_with fail
  refine (ref_put S2 B 12 (min B.size (12 - S2.size)) _ (by omega) (by omega) (by omega) rfl).mono ?_
  rintro e u17 ⟨rfl, b17⟩
  rw [HS3.out]
  obtain ⟨Y, hY⟩ : ∃ Y, u16.heap.size = Y := ⟨_, rfl⟩
  have F17 : Hid (Blk u17 Y [.string S2, .int .i64 12] 28 ∧ Blk u17 X [.string S1, .int .i64 12] 28 ∧ RAt u17 b g 12 f6 S3 ∧ Below w.heap.size w u17 ∧ w.heap.size ≤ Y ∧ b ≠ Y ∧ g ≠ Y) := by
    have hb0 : Below u16.heap.size u16 (u16.alloc (Obj.cells #[Value.string S2, Value.int .i64 12] 28)) := (Below.refl _ _).alloc (Nat.le_refl _) _
    have hn := Blk.newA u16 #[Value.string S2, Value.int .i64 12] 28
    have hs := F16.out.2.2.1.size
    have hl := F16.out.1.lt
    have hb1 := F16.out.2.1.2.2.2.2.2.1.lt
    obtain ⟨_, _, _, _, _, _, R, _, hg1, _⟩ := F16.out.2.1
    have hg2 := hg1.lt
    rw [← hY]
    exact ⟨hn.below b17 (by simp), (F16.out.1.below hb0 hl).below b17 (by rw [World.size_alloc]; omega), (F16.out.2.1.fresh hb0).fresh b17, (F16.out.2.2.1.trans (hb0.mono hs)).trans (b17.mono (by rw [World.size_alloc]; omega)), hs, by omega, by omega⟩
  have hXY : X < Y := by rw [← hY]; exact F16.out.1.lt
  rw [hY]
  clear b17 hY
  have x0 := F17.out.1.cell (i := 0) rfl
  have x1 := F17.out.1.cell (i := 1) rfl
  have y0 := F17.out.1.free 0
  have y1 := F17.out.1.free 1
  have z0 := F17.out.2.1.cell (i := 0) rfl
  go_wp2_with fail
  have F18 : Hid (RAt ((u17.setCell ⟨Y, 0, none⟩ (.string S3)).setCell ⟨Y, 1, none⟩ (.int .i64 12)) b g 12 f6 S3 ∧ Below w.heap.size w ((u17.setCell ⟨Y, 0, none⟩ (.string S3)).setCell ⟨Y, 1, none⟩ (.int .i64 12))) := by
    obtain ⟨k1, k2, k3, k4, k5, k6, k7⟩ := F17.out
    have kc : Chg [Y] u17 ((u17.setCell ⟨Y, 0, none⟩ (.string S3)).setCell ⟨Y, 1, none⟩ (.int .i64 12)) := ((Chg.refl _ _).set (Or.inl (by simp)) _ _).set (Or.inl (by simp)) _ _
    exact ⟨k3.chg kc (by simpa using k6) (by simpa using k7), kc.onto k4 k4.size (by simpa using k5)⟩
  clear x0 x1 y0 y1 z0 F17
  revert F18
  generalize ((u17.setCell ⟨Y, 0, none⟩ (.string S3)).setCell ⟨Y, 1, none⟩ (.int .i64 12)) = u18
  intro F18
  refine (peek_any _ _ 12 f6 _ 0 12 _ F18.out.1).mono ?_
  rintro e u19 ⟨rfl, b19⟩
  rw [P3.out]
  have F19 : Hid (Below w.heap.size w u19) := F18.out.2.trans (b19.mono F18.out.2.size)
  clear b19 F18
  go_wp2_with (go_at_call 16; refine (lives_any _).mono ?_; rintro e u20 ⟨rfl, hb⟩)
  go_ret
  exact ⟨rfl, F19.out.trans (Below.mono (by assumption) F19.out.size)⟩

set_option maxRecDepth 100000 in
theorem lifted (os : Os) (started : os.Started) (H : Type) (enc : TypeId × Value → H) :
    ReturnsInHanded {} Try.checked os 5 .any (Rows.ringCopiesSpec.pre6 enc Try.prog Try.f5 Rows.ringCopiesRow.domain false) (Rows.ringCopiesSpec.post enc Try.prog Try.f5 false true false false) := by
  refine returnsInHanded_of_change (C := Try.checked) ownKn started (by kernel_rfl) Try.func5
    (ChangeSpec.witness6 (enc := enc) (C := Try.checked) false ⟨#[], #[.string ByteArray.empty, .string ByteArray.empty, .int .i64 0], []⟩ 8 (by kernel_rfl) (by kernel_rfl) (by kernel_rfl) (by kernel_rfl)) ?_
  intro W base args ds gs before hval0 hW hcnd _
  have hval : ∀ (j : Nat) t v, Try.f5.params[j]? = some t → args[j]? = some v → Value.okWide Try.prog W .any base t v := hval0
  have hW' := hW
  obtain ⟨p, q, hA0, hV, rfl, hfz, hnd⟩ := hW
  have hA : DataW.TrodAll enc Try.prog W 0 (fun _ => true) true Try.f5.params.toList args.toList ds p := hA0
  rw [Try.params5] at hA hval
  obtain ⟨v0, vs0, d0, ds0, p0, q0, hargs, rfl, rfl, h0, r0⟩ := trodAll_cons hA
  obtain ⟨v1, vs1, d1, ds1, p1, q1, rfl, rfl, rfl, h1, r1⟩ := trodAll_cons r0
  obtain ⟨v2, vs2, d2, ds2, p2, q2, rfl, rfl, rfl, h2, r2⟩ := trodAll_cons r1
  obtain ⟨rfl, rfl, rfl⟩ := trodAll_nil r2
  obtain rfl : args = #[v0, v1, v2] := by cases args; simp_all
  obtain ⟨rfl, rfl⟩ := trodVars_none hV
  have k0 := h0
  have lt0 : ∀ x ∈ p0, x.block < W.heap.size := by obtain ⟨m, hm⟩ := k0; exact DataW.trod_lt m _ _ _ hm
  obtain ⟨a0, rfl, rfl, rfl, w0⟩ := open_string Try.underlying9 (hval 0 9 v0 rfl rfl) h0
  have k1 := h1
  have lt1 : ∀ x ∈ p1, x.block < W.heap.size := by obtain ⟨m, hm⟩ := k1; exact DataW.trod_lt m _ _ _ hm
  obtain ⟨a1, rfl, rfl, rfl, w1⟩ := open_string Try.underlying9 (hval 1 9 v1 rfl rfl) h1
  have k2 := h2
  have lt2 : ∀ x ∈ p2, x.block < W.heap.size := by obtain ⟨m, hm⟩ := k2; exact DataW.trod_lt m _ _ _ hm
  obtain ⟨a2, rfl, rfl, rfl, w2⟩ := open_int Try.underlying3 (hval 2 3 v2 rfl rfl) h2
  clear hA0 hval0
  refine (walk a0 a1 a2 W w0 w1 w2).mono fun e W' ⟨he, bel⟩ => ?_
  subst he
  exact ⟨_, rfl, _, _, _, [], _, [], hW', trodAll_mk1 (shut_bool Try.underlying4 _), (trodAll_cons_mk (Below.trod laidOut (by kernel_rfl) (of_decide_eq_true (by kernel_rfl)) k0 bel lt0) (trodAll_cons_mk (Below.trod laidOut (by kernel_rfl) (of_decide_eq_true (by kernel_rfl)) k1 bel lt1) (trodAll_cons_mk (Below.trod laidOut (by kernel_rfl) (of_decide_eq_true (by kernel_rfl)) k2 bel lt2) trodAll_mk0))), rfl, bel.frame _, fun h => by cases h⟩

theorem over : Rows.ringCopiesRow.holds Try.pinned (OpenSpec.ofChange Rows.ringCopiesSpec) :=
  OpenClaim.holds_of_wide 5 Try.f5 rfl rfl rfl rfl rfl rfl rfl ⟨rfl, rfl, rfl, rfl, rfl⟩ rfl rfl rfl rfl rfl (by kernel_rfl) Try.func5 (by kernel_rfl)
    (of_decide_eq_true (by kernel_rfl)) (by unfold Func.isWrapper; first | (rw [if_pos (by decide +kernel)]; kernel_rfl) | (rw [if_neg (by decide +kernel)]; exact ⟨rfl, rfl⟩))
    (fun os started H enc _ => lifted os started H enc)

/-- The statement. -/
theorem proved : Rows.RingCopiesSaid := over
#print axioms proved
end Go.Proofs.Ytbgheljihjajdaa.ringCopies
