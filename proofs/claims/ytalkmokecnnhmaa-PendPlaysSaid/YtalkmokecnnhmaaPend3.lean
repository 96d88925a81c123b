/- The document's own answer for a writer (package reparteeref20), and what a writer tells, held against it. -/
import Derived.Test.YtalkmokecnnhmaaPend2
namespace Go.Proofs.Ytalkmokecnnhmaa
open Go.ChangeShapes Go.WideShapes Go.ChangeAt Go.RowKit
set_option linter.unusedSimpArgs false
set_option linter.unusedVariables false

theorem ref_new (x : Int) (n : Int) (hn : clampI x 1 4096 = n) (w : World) :
    Calls Try.prog 7 #[.int .i64 x] w fun r w' => r = .returned (.agg #[.string ⟨#[]⟩, .string ⟨#[]⟩, .string ⟨#[]⟩, .int .i64 n, .int .i64 0]) ∧ Below w.heap.size w w' := by
  have HK := Lib.hid hn
  clear hn
  go_enter Try.func7, Try.ntmps7
  go_wp2_with (go_at_call 24; refine (within_any _ _ _ _ HK.out _).mono ?_; rintro e w' ⟨rfl, rfl⟩)
  exact bodyPost_ret (v := .agg #[.string ⟨#[]⟩, .string ⟨#[]⟩, .string ⟨#[]⟩, .int .i64 n, .int .i64 0]) (by simp [results, Try.results7, go_sem]) rfl ⟨rfl, by repeat (first | exact Below.refl _ _ | refine Below.drew ?_ | refine Below.alloc ?_ (by simp) _ | refine Below.setCell ?_ (by simp) _ | refine below_drewN ?_ _)⟩
theorem ref_begin (D O R S : ByteArray) (M : Int) (t : Nat) (w : World) :
    Calls Try.prog 10 #[.agg #[.string D, .string O, .string R, .int .i64 M, .int .i64 t], .string S] w fun r w' => r = .returned (.agg #[.string ⟨#[]⟩, .string ⟨#[]⟩, .string S, .int .i64 M, .int .i64 0]) ∧ Below w.heap.size w w' := by
  go_enter Try.func10, Try.ntmps10
  go_wp2
  exact bodyPost_ret (v := .agg #[.string ⟨#[]⟩, .string ⟨#[]⟩, .string S, .int .i64 M, .int .i64 0]) (by simp [results, Try.results10, go_sem]) rfl ⟨rfl, by repeat (first | exact Below.refl _ _ | refine Below.drew ?_ | refine Below.alloc ?_ (by simp) _ | refine Below.setCell ?_ (by simp) _ | refine below_drewN ?_ _)⟩
theorem ref_load_no (D O R : ByteArray) (M : Int) (t : Nat) (w : World) (hO : 0 < O.size) :
    Calls Try.prog 11 #[.agg #[.string D, .string O, .string R, .int .i64 M, .int .i64 t]] w fun r w' => r = .returned (.tuple #[.agg #[.string D, .string O, .string R, .int .i64 M, .int .i64 t], .int .i64 0]) ∧ Below w.heap.size w w' := by
  have hge := size_full hO
  go_enter Try.func11, Try.ntmps11
  go_wp2
  exact bodyPost_ret (v := .tuple #[.agg #[.string D, .string O, .string R, .int .i64 M, .int .i64 t], .int .i64 0]) (by simp [results, Try.results11, go_sem]) rfl ⟨rfl, by repeat (first | exact Below.refl _ _ | refine Below.drew ?_ | refine Below.alloc ?_ (by simp) _ | refine Below.setCell ?_ (by simp) _ | refine below_drewN ?_ _)⟩
set_option maxHeartbeats 1000000 in
theorem ref_load_yes (D O R : ByteArray) (M : Int) (t k : Nat) (w : World) (hO : O.size = 0) (hk : clampI R.size 0 M = (k : Int)) (hkR : k ≤ R.size) :
    Calls Try.prog 11 #[.agg #[.string D, .string O, .string R, .int .i64 M, .int .i64 t]] w fun r w' => r = .returned (.tuple #[.agg #[.string D, .string (R.extract 0 k), .string (R.extract k R.size), .int .i64 M, .int .i64 t], .int .i64 k]) ∧ Below w.heap.size w w' := by
  have hge := size_empty hO
  have HK := Lib.hid hk
  have i1 : (0 : Int) ≤ (k : Int) := by omega
  have i2 : (k : Int) ≤ (R.size : Int) := by omega
  clear hk hO
  go_enter Try.func11, Try.ntmps11
  go_wp2_with (go_at_call 24; refine (within_any _ _ _ _ HK.out _).mono ?_; rintro e w' ⟨rfl, rfl⟩)
  go_region
  go_wp2
  exact bodyPost_ret (v := .tuple #[.agg #[.string D, .string (R.extract 0 k), .string (R.extract k R.size), .int .i64 M, .int .i64 t], .int .i64 k]) (by simp [results, Try.results11, go_sem]) rfl ⟨rfl, by repeat (first | exact Below.refl _ _ | refine Below.drew ?_ | refine Below.alloc ?_ (by simp) _ | refine Below.setCell ?_ (by simp) _ | refine below_drewN ?_ _)⟩
theorem ref_take_no (D O R : ByteArray) (M n : Int) (t : Nat) (w : World) (hO : O.size = 0) :
    Calls Try.prog 13 #[.agg #[.string D, .string O, .string R, .int .i64 M, .int .i64 t], .int .i64 n] w fun r w' => r = .returned (.tuple #[.agg #[.string D, .string O, .string R, .int .i64 M, .int .i64 t], .string ⟨#[]⟩]) ∧ Below w.heap.size w w' := by
  have hge := size_empty hO
  clear hO
  go_enter Try.func13, Try.ntmps13
  go_wp2
  exact bodyPost_ret (v := .tuple #[.agg #[.string D, .string O, .string R, .int .i64 M, .int .i64 t], .string ⟨#[]⟩]) (by simp [results, Try.results13, go_sem]) rfl ⟨rfl, by repeat (first | exact Below.refl _ _ | refine Below.drew ?_ | refine Below.alloc ?_ (by simp) _ | refine Below.setCell ?_ (by simp) _ | refine below_drewN ?_ _)⟩
set_option maxHeartbeats 1000000 in
theorem ref_take_part (D O R : ByteArray) (M n : Int) (t j : Nat) (w : World) (hO : 0 < O.size) (hj : clampI n 0 O.size = (j : Int)) (hjO : j < O.size) (ht : t ≤ 1000000) (hDz : D.size ≤ 1000000) (hOz : O.size ≤ 1000000) :
    Calls Try.prog 13 #[.agg #[.string D, .string O, .string R, .int .i64 M, .int .i64 t], .int .i64 n] w fun r w' => r = .returned (.tuple #[.agg #[.string (D ++ O.extract 0 j), .string (O.extract j O.size), .string R, .int .i64 M, .int .i64 ((t + 1 : Nat) : Int)], .string (O.extract 0 j)]) ∧ Below w.heap.size w w' := by
  have hge := size_full hO
  have HK := Lib.hid hj
  have i1 : (0 : Int) ≤ (j : Int) := by omega
  have i2 : (j : Int) ≤ (O.size : Int) := by omega
  have hge2 := size_full (G := O.extract j O.size) (by rw [ByteArray.size_extract]; omega)
  have e9 : ((t + 1 : Nat) : Int) = (t : Int) + 1 := by omega
  rw [e9]
  have hcat : ¬ 9223372036854775807 < D.size + min j O.size := by omega
  clear hj hO e9
  go_enter Try.func13, Try.ntmps13
  go_wp2_with (go_at_call 24; refine (within_any _ _ _ _ HK.out _).mono ?_; rintro e w' ⟨rfl, rfl⟩)
  go_region
  go_wp2
  exact bodyPost_ret (v := .tuple #[.agg #[.string (D ++ O.extract 0 j), .string (O.extract j O.size), .string R, .int .i64 M, .int .i64 ((t : Int) + 1)], .string (O.extract 0 j)]) (by simp [results, Try.results13, go_sem]) rfl ⟨rfl, by repeat (first | exact Below.refl _ _ | refine Below.drew ?_ | refine Below.alloc ?_ (by simp) _ | refine Below.setCell ?_ (by simp) _ | refine below_drewN ?_ _)⟩
set_option maxHeartbeats 1000000 in
theorem ref_take_whole (D O R : ByteArray) (M n : Int) (t j : Nat) (w : World) (hO : 0 < O.size) (hj : clampI n 0 O.size = (j : Int)) (hjO : j = O.size) (hDz : D.size ≤ 1000000) (hOz : O.size ≤ 1000000) :
    Calls Try.prog 13 #[.agg #[.string D, .string O, .string R, .int .i64 M, .int .i64 t], .int .i64 n] w fun r w' => r = .returned (.tuple #[.agg #[.string (D ++ O.extract 0 j), .string (O.extract j O.size), .string R, .int .i64 M, .int .i64 t], .string (O.extract 0 j)]) ∧ Below w.heap.size w w' := by
  have hge := size_full hO
  have HK := Lib.hid hj
  have i1 : (0 : Int) ≤ (j : Int) := by omega
  have i2 : (j : Int) ≤ (O.size : Int) := by omega
  have hge2 := size_empty (G := O.extract j O.size) (by rw [ByteArray.size_extract]; omega)
  have hcat : ¬ 9223372036854775807 < D.size + min j O.size := by omega
  clear hj hO hjO
  go_enter Try.func13, Try.ntmps13
  go_wp2_with (go_at_call 24; refine (within_any _ _ _ _ HK.out _).mono ?_; rintro e w' ⟨rfl, rfl⟩)
  go_region
  go_wp2
  exact bodyPost_ret (v := .tuple #[.agg #[.string (D ++ O.extract 0 j), .string (O.extract j O.size), .string R, .int .i64 M, .int .i64 t], .string (O.extract 0 j)]) (by simp [results, Try.results13, go_sem]) rfl ⟨rfl, by repeat (first | exact Below.refl _ _ | refine Below.drew ?_ | refine Below.alloc ?_ (by simp) _ | refine Below.setCell ?_ (by simp) _ | refine below_drewN ?_ _)⟩
theorem left_b (b : Nat) (o : Int) (T : ByteArray) (s l t : Nat) (w : World) (h : PB w b o T s l t) :
    Calls Try.prog 20 #[.pointer (some ⟨b, 0, none⟩)] w fun e w' => e = .returned (.int .i64 l) ∧ w = w' := left_any b o T s l t w h.pat
set_option maxRecDepth 20000 in
set_option maxHeartbeats 4000000 in
theorem told_any (b : Nat) (o : Int) (T D O R : ByteArray) (s l t : Nat) (w : World) (hT : T.size ≤ 1000000) (hs : s + l ≤ T.size) (hO : T.extract s (s + l) = O) (zD : D.size = s) (zO : O.size = l) (zR : R.size = T.size - s - l) (h : PB w b o T s l t) :
    Calls Try.prog 17 #[.pointer (some ⟨b, 0, none⟩), .agg #[.string D, .string O, .string R, .int .i64 o, .int .i64 t]] w fun r w' => r = .returned (.bool true) ∧ Below w.heap.size w w' := by
  have HP := Lib.hid h
  have HO := Lib.hid hO
  have hr : (T.size : Int) - (s : Int) - (l : Int) = (R.size : Int) := by omega
  have HS := Lib.hid hs
  clear h hO
  go_enter Try.func17, Try.ntmps17
  go_wp2_with fail
  have hV : Hid (PB (w.alloc (Obj.cells #[.string D, .string O, .string R, .int .i64 o, .int .i64 t] 26)) b o T s l t ∧ Blk (w.alloc (Obj.cells #[.string D, .string O, .string R, .int .i64 o, .int .i64 t] 26)) w.heap.size [.string D, .string O, .string R, .int .i64 o, .int .i64 t] 26 ∧ Below w.heap.size w (w.alloc (Obj.cells #[.string D, .string O, .string R, .int .i64 o, .int .i64 t] 26))) :=
    ⟨Blk.alloc HP.out _, Blk.newA w _ _, (Below.refl _ _).alloc (Nat.le_refl _) _⟩
  clear HP
  revert hV
  generalize (w.alloc (Obj.cells #[.string D, .string O, .string R, .int .i64 o, .int .i64 t] 26)) = W1
  intro hV
  refine wp_region_class (fun w' => PB w' b o T s l t ∧ Blk w' w.heap.size [.string D, .string O, .string R, .int .i64 o, .int .i64 t] 26 ∧ Below w.heap.size w w') (by kernel_rfl) (by kernel_rfl) ⟨Blk.drew hV.out.1, hV.out.2.1.drew, hV.out.2.2.drew⟩ ?_
  repeat (first
      | go_big_quiet_skip
      | (go_big_quiet_want
         unfold Oper.quiet
         apply Exists.intro
         refine ⟨fun wq hwq => ?_, ?_⟩
         · (obtain ⟨hq1, hq2, hq3⟩ := hwq
            have c0 := hq2.cell (i := 0) rfl
            have c1 := hq2.cell (i := 1) rfl
            have c2 := hq2.cell (i := 2) rfl
            have c4 := hq2.cell (i := 4) rfl
            unfold Oper.quietAt
            go_simp
            first
              | exact ⟨rfl, hq1, hq2, hq3⟩
              | exact rfl
              | (go_at_call 22; refine (peek_any _ _ _ _ _ _ _ hT HS.out hq1.pat).mono ?_; rintro e w3 ⟨he, q, rfl⟩; rw [HO.out] at he; exact ⟨he, Blk.drewN hq1 q, hq2.drewN q, below_drewN hq3 q⟩)
              | (go_at_call 20; refine (left_any _ _ _ _ _ _ _ hq1.pat).mono ?_; rintro e w3 ⟨he, rfl⟩; exact ⟨he, hq1, hq2, hq3⟩)
              | (go_at_call 21; refine (rest_any _ _ _ _ _ _ _ hT HS.out hq1.pat).mono ?_; rintro e w3 ⟨he, q, rfl⟩; exact ⟨he, Blk.drewN hq1 q, hq2.drewN q, below_drewN hq3 q⟩)
              | (go_at_call 19; refine (sent_any _ _ _ _ _ _ _ hq1.pat).mono ?_; rintro e w3 ⟨he, rfl⟩; exact ⟨he, hq1, hq2, hq3⟩)
              | (go_at_call 23; refine (tries_any _ _ _ _ _ _ _ hq1.pat).mono ?_; rintro e w3 ⟨he, rfl⟩; exact ⟨he, hq1, hq2, hq3⟩))
         simp only [Act.put, List.setIfInBounds_toArray, List.set_cons_zero, List.set_cons_succ]
         go_big_quiet_on))
  refine wpQuiet_nil ?_
  intro w4 hw4
  have HB := Lib.hid hw4.2.2
  clear hw4
  go_wp2
  go_ret
  exact ⟨rfl, HB.out⟩
end Go.Proofs.Ytalkmokecnnhmaa
