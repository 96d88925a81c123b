/- P4.3: for every ids and id: what is popped is what was pushed, in order; whoever stands at a place is popped when all ahead are. No condition. -/
import Derived.Test.YtnimbfllefbjgaaOpen
import Derived.WalkKit
import Derived.ProofKit
import Derived.OpenShut
import Derived.Test.YtnimbfllefbjgaaFifoOrd
import Derived.Deep.CutRange
namespace Go.Proofs.Ytnimbfllefbjgaa.fifoOrders
open Go.Joins Go.ChangeShapes Go.WideShapes Go.ChangeAt Go.RowKit Go.Deep
open Go.ChangeMaps (open_string)
set_option linter.unusedSimpArgs false
set_option linter.unusedVariables false

set_option maxRecDepth 20000 in
set_option maxHeartbeats 8000000 in

theorem walk (a0 : Option Addr) (len0 cap0 : Nat) (z0 : List Int) (a1 : Int) (w : World) (w0 : IsRow .u8 w a0 len0 cap0 z0) (w1 : (Lit.int .u8 a1).wf = true) :
    Calls Try.prog 4 #[.slice a0 len0 cap0, .int .u8 a1] w fun e w' => e = .returned (.bool true) ∧ Below w.heap.size w w' := by
  obtain ⟨hlc, hcm, hnil, hcell⟩ := w0
  unfold maxLen at hnil
  have HCELL := Lib.hid hcell
  have b1 : 0 ≤ a1 ∧ a1 ≤ 255 := bounds_u8 w1
  obtain ⟨x, hx, hx8⟩ : ∃ x : Nat, a1.tmod 8 = (x : Int) ∧ x < 8 := ⟨(a1 % 8).toNat, by rw [Int.tmod_eq_emod_of_nonneg b1.1]; omega, by omega⟩
  clear hcell
  go_enter Try.func4, Try.ntmps4
  go_wp2_with fail
  refine (new_any 8 8 _ (by decide)).mono ?_
  rintro e u1 ⟨b, R, I, rfl, k1, k2, k3, k4, k5⟩
  have HF := Lib.hid (And.intro k1 (And.intro k2 (And.intro k3 (And.intro k4 k5))))
  clear k1 k2 k3 k4 k5
  go_wp2_with fail
  have HS0 : Hid (St w ((u1.alloc (Obj.cells #[] 3)).alloc (Obj.cells #[] 3)) b R I [] u1.heap.size 0 [] (u1.heap.size + 1) 0 []) := by
    obtain ⟨k1, k2, k3, k4, k5⟩ := HF.out
    have hs := k2.size
    have hl := k1.lts
    have k : Chg [] u1 ((u1.alloc (Obj.cells #[] 3)).alloc (Obj.cells #[] 3)) := ((Chg.refl _ _).alloc _).alloc _
    have e2 : Rw ((u1.alloc (Obj.cells #[] 3)).alloc (Obj.cells #[] 3)) (u1.heap.size + 1) 0 [] 3 := by
      have h := Rw.empty (u1.alloc (Obj.cells #[] 3)) 3
      rw [World.size_alloc] at h
      exact h
    exact ⟨k1.chg k (by simp) (by simp) (by simp), (Rw.empty u1 3).chg ((Chg.refl [] _).alloc _) (by simp), e2, k.onto k2 hs (by simp), ⟨k3, k4, k5⟩, by omega, by omega, by omega, by omega⟩
  clear HF
  revert HS0
  generalize (u1.alloc (Obj.cells #[] 3)).alloc (Obj.cells #[] 3) = w00
  intro HS0
  go_loopw [6, 7, 8] (fun gi go i wr => ∃ (k g1 c1 g2 c2 : Nat) (L A O : List Nat), k ≤ 30 ∧ k ≤ len0 ∧ gi = .slice (some ⟨g1, 0, none⟩) A.length c1 ∧ go = .slice (some ⟨g2, 0, none⟩) O.length c2 ∧ i = .int .i64 k ∧ Hid (O ++ L = A) ∧ A.length ≤ k ∧ Hid (St w wr b R I L g1 c1 A g2 c2 O)) (fun _ _ i _ => 30 - (intOf i).toNat)
  case atStart => exact ⟨0, _, 0, _, 0, [], [], [], by omega, by omega, rfl, rfl, rfl, rfl, by simp, HS0⟩
  case round =>
    clear HS0
    obtain ⟨k, g1, c1, g2, c2, L, A, O, hk30, hkl, rfl, rfl, rfl, HX, hA, HS⟩ := hrel
    by_cases hlt : k < len0
    · by_cases h30 : k < 30
      · obtain ⟨bb, off, hab, hbl, hcl⟩ := HCELL.out.2.2 (by omega)
        subst hab
        have hzm : z0.getD k 0 ∈ z0 := by
          have hk : k < z0.length := by omega
          simp [List.getD, List.getElem?_eq_getElem hk]
        have hzb := bounds_u8 (HCELL.out.2.1 _ hzm)
        have hzc := hcl k hlt
        obtain ⟨z, hz⟩ : ∃ z, z0.getD k 0 = z := ⟨_, rfl⟩
        rw [hz] at hzb hzc
        have HY := Lib.hid hzc
        have hy1 := HS.out.ids hbl HY.out
        obtain ⟨n, hn, hn9⟩ : ∃ n : Nat, z.tmod 9 = (n : Int) ∧ n < 9 := ⟨(z % 9).toNat, by rw [Int.tmod_eq_emod_of_nonneg hzb.1]; omega, by omega⟩
        clear hcl hzm hz hzc
        have hlA0 : O.length + L.length = A.length := by rw [← HX.out, List.length_append]
        go_wp2_with fail
        by_cases hp : n < 8 ∧ ¬ n ∈ L
        · refine (push_yes b R I 8 n L _ hp.1 hp.2 HS.out.1).mono ?_
          rintro e w1 ⟨rfl, k1, k2⟩
          have HS0 := Lib.hid (HS.out.q k1 k2)
          obtain ⟨L1, hL1⟩ : ∃ L1, L ++ [n] = L1 := ⟨_, rfl⟩
          rw [hL1] at HS0
          obtain ⟨A1, hA1⟩ : ∃ A1, A ++ [n] = A1 := ⟨_, rfl⟩
          have HX1 : Hid (O ++ L1 = A1) := Lib.hid (by rw [← hL1, ← hA1, ← List.append_assoc, HX.out])
          have hAl : A1.length = A.length + 1 := by rw [← hA1, List.length_append]; rfl
          have HA1 := Lib.hid hA1
          clear k1 k2 hp hA1
          by_cases h127 : 127 < z
          · cases L1 with
            | nil =>
              exact absurd hL1 (by simp)
            | cons y Ly =>
              clear hL1 HS
              have hLl : O.length + (Ly.length + 1) = A1.length := by rw [← HX1.out, List.length_append]; rfl
              go_wp2_with (first
                | (at_builtin; refine wpList_append_rw _ rfl (.tmp 39) (.tmp 41) 25 25 rfl 3 (.int .i64 0) 8 Try.underlying25 info3 rfl g1 _ c1 (A.map iv) rfl (by simp) (HS0.out.arg _).2.1 _ rfl 1 _ (Src.ofSlice _ Try.underlying25 ⟨_, 0, none⟩ 1 1 [iv n] rfl (one_cell _ _ _) (one_iv n)) (by omega) (by omega) ?_; intro g4 c4 w4 r1 r2 r3; rw [map_snoc, HA1.out] at r1; rw [← hAl]; have HS1 := Lib.hid ((HS0.out.arg _).inn r1 r2 r3); have hy3 := HS1.out.ids hbl HY.out; clear r1 r2 r3 HS0)
                | (go_at_call 12; refine (pop_some b R I 8 y Ly _ HS1.out.1).mono ?_; rintro e w3 ⟨rfl, k1, k2⟩; have HS3 := Lib.hid (HS1.out.q k1 k2); clear k1 k2 HS1)
                | (at_builtin; refine wpList_append_rw _ rfl (.tmp 54) (.tmp 56) 25 25 rfl 3 (.int .i64 0) 8 Try.underlying25 info3 rfl g2 _ c2 (O.map iv) rfl (by simp) (HS3.out.arg _).2.2.1 _ rfl 1 _ (Src.ofSlice _ Try.underlying25 ⟨_, 0, none⟩ 1 1 [iv y] rfl (one_cell _ _ _) (one_iv y)) (by omega) (by omega) ?_; intro g5 c5 w5 r1 r2 r3; rw [map_snoc] at r1; have HS4 := Lib.hid ((HS3.out.arg _).outt r1 r2 r3); clear r1 r2 r3 HS3))
              have HX4 : Hid ((O ++ [y]) ++ Ly = A1) := Lib.hid (by rw [← HX1.out, List.append_assoc]; rfl)
              go_roundw
              case rel => exact ⟨k + 1, g4, c4, g5, c5, Ly, A1, (O ++ [y]), by omega, by omega, by rw [hAl], by simp, by go_num, HX4, by omega, HS4⟩
              case measure => simp [intOf]; omega
          · go_wp2_with (at_builtin; refine wpList_append_rw _ rfl (.tmp 39) (.tmp 41) 25 25 rfl 3 (.int .i64 0) 8 Try.underlying25 info3 rfl g1 _ c1 (A.map iv) rfl (by simp) (HS0.out.arg _).2.1 _ rfl 1 _ (Src.ofSlice _ Try.underlying25 ⟨_, 0, none⟩ 1 1 [iv n] rfl (one_cell _ _ _) (one_iv n)) (by omega) (by omega) ?_; intro g4 c4 w4 r1 r2 r3; rw [map_snoc, HA1.out] at r1; rw [← hAl]; have HS1 := Lib.hid ((HS0.out.arg _).inn r1 r2 r3); have hy3 := HS1.out.ids hbl HY.out; clear r1 r2 r3 HS0)
            go_roundw
            case rel => exact ⟨k + 1, g4, c4, g2, c2, L1, A1, O, by omega, by omega, by rw [hAl], by simp, by go_num, HX1, by omega, HS1⟩
            case measure => simp [intOf]; omega
        · have hi : (n : Int) < 0 ∨ (8 : Int) ≤ (n : Int) ∨ isIn L (n : Int) = true := by
            by_cases h8 : n < 8
            · right; right; rw [isIn_nat]; simpa using fun hm => hp ⟨h8, hm⟩
            · right; left; omega
          refine (push_no b R I 8 L n _ hi HS.out.1).mono ?_
          rintro e w1 ⟨rfl, rfl⟩
          have HS1 := HS
          have HX1 := HX
          clear hi hp
          have hy2 := HS1.out.ids hbl HY.out
          by_cases h127 : 127 < z
          · cases L with
            | nil =>
              clear HS
              go_wp2_with (go_at_call 12; refine (pop_none b R I 8 _ HS1.out.1).mono ?_; rintro e w' ⟨rfl, rfl⟩)
              go_roundw
              case rel => exact ⟨k + 1, g1, c1, g2, c2, [], A, O, by omega, by omega, rfl, by simp, by go_num, HX1, by omega, HS1⟩
              case measure => simp [intOf]; omega
            | cons y Ly =>
              clear HS
              have hLl : O.length + (Ly.length + 1) = A.length := by rw [← HX1.out, List.length_append]; rfl
              go_wp2_with (first
                | (go_at_call 12; refine (pop_some b R I 8 y Ly _ HS1.out.1).mono ?_; rintro e w3 ⟨rfl, k1, k2⟩; have HS3 := Lib.hid (HS1.out.q k1 k2); clear k1 k2 HS1)
                | (at_builtin; refine wpList_append_rw _ rfl (.tmp 54) (.tmp 56) 25 25 rfl 3 (.int .i64 0) 8 Try.underlying25 info3 rfl g2 _ c2 (O.map iv) rfl (by simp) (HS3.out.arg _).2.2.1 _ rfl 1 _ (Src.ofSlice _ Try.underlying25 ⟨_, 0, none⟩ 1 1 [iv y] rfl (one_cell _ _ _) (one_iv y)) (by omega) (by omega) ?_; intro g5 c5 w5 r1 r2 r3; rw [map_snoc] at r1; have HS4 := Lib.hid ((HS3.out.arg _).outt r1 r2 r3); clear r1 r2 r3 HS3))
              have HX4 : Hid ((O ++ [y]) ++ Ly = A) := Lib.hid (by rw [← HX1.out, List.append_assoc]; rfl)
              go_roundw
              case rel => exact ⟨k + 1, g1, c1, g5, c5, Ly, A, (O ++ [y]), by omega, by omega, rfl, by simp, by go_num, HX4, by omega, HS4⟩
              case measure => simp [intOf]; omega
          · clear HS
            go_wp2
            go_roundw
            case rel => exact ⟨k + 1, g1, c1, g2, c2, L, A, O, by omega, by omega, rfl, by simp, by go_num, HX1, by omega, HS1⟩
            case measure => simp [intOf]; omega
      · have HY0 := HX
        clear HY0
        have hxx : (a1.tmod 8) = (x : Int) := hx
        go_wp2_with fail
        refine (place_any b R I 8 L x _ HS.out.1).mono ?_
        rintro e w1 ⟨rfl, q, rfl⟩
        have HS1 := Lib.hid (HS.out.drewN q)
        clear HS
        revert HS1
        generalize wr.drewN q = w1
        intro HS1
        have hlA0 : O.length + L.length = A.length := by rw [← HX.out, List.length_append]
        have hal := plc_le L x
        have HA0 := Lib.hid (Far.begin L x)
        obtain ⟨at_, hat⟩ : ∃ at_, plc L (x : Int) = at_ := ⟨_, rfl⟩
        rw [hat] at hal HA0
        rw [hat]
        clear hat
        go_wp2_with fail
        go_loopw [7, 13] (fun go i wr => ∃ (k g c : Nat) (L2 O2 : List Nat), k ≤ 30 ∧ go = .slice (some ⟨g, 0, none⟩) O2.length c ∧ i = .int .i64 k ∧ Hid (O2 ++ L2 = A) ∧ Hid (Far L2 x at_ k) ∧ Hid (St w wr b R I L2 g1 c1 A g c O2)) (fun _ i _ => 40 - (intOf i).toNat)
        case atStart => exact ⟨0, g2, c2, L, O, by omega, rfl, rfl, HX, HA0, HS1⟩
        case round =>
          clear HS1 HX HA0
          obtain ⟨k2, g, c, L2, O2, hk30, rfl, rfl, HX2, HA2, HS2⟩ := hrel
          by_cases h0 : 0 ≤ at_
          · by_cases hka : (k2 : Int) ≤ at_
            · cases L2 with
              | nil => exact absurd (HA2.out hka).1 (by simp)
              | cons y Ly =>
                have hhd := HA2.out.head hka
                have HA3 := Lib.hid (HA2.out.next hka)
                have hyn : ¬ y ∈ Ly := (List.nodup_cons.1 HS2.out.1.2.1).1
                have hy8 : y < 8 := HS2.out.1.2.2.1 y (by simp)
                have hlA : O2.length + (Ly.length + 1) = A.length := by rw [← HX2.out, List.length_append]; rfl
                have HX3 : Hid ((O2 ++ [y]) ++ Ly = A) := Lib.hid (by rw [← HX2.out, List.append_assoc]; rfl)
                by_cases e : y = x
                · subst e
                  have e2 : (k2 : Int) = at_ := hhd.1 rfl
                  subst e2
                  clear hhd HX2 HA2
                  go_wp2_with (first
              | (go_at_call 12; refine (pop_some b R I 8 y Ly _ HS2.out.1).mono ?_; rintro e w3 ⟨rfl, k1, k2⟩; have HS3 := Lib.hid (HS2.out.q k1 k2); clear k1 k2 HS2)
              | (at_builtin; refine wpList_append_rw _ rfl (.tmp 90) (.tmp 92) 25 25 rfl 3 (.int .i64 0) 8 Try.underlying25 info3 rfl g _ c (O2.map iv) rfl (by simp) (HS3.out.arg _).2.2.1 _ rfl 1 _ (Src.ofSlice _ Try.underlying25 ⟨_, 0, none⟩ 1 1 [iv y] rfl (one_cell _ _ _) (one_iv y)) (by omega) (by omega) ?_; intro g4 c4 w4 r1 r2 r3; rw [map_snoc] at r1; have HS4 := Lib.hid ((HS3.out.arg _).outt r1 r2 r3); clear r1 r2 r3 HS3)
              | (go_at_call 11; refine (push_yes b R I 8 y Ly _ hy8 hyn HS4.out.1).mono ?_; rintro e w5 ⟨rfl, k1, k2⟩; have HS5 := Lib.hid (HS4.out.q k1 k2); clear k1 k2 HS4)
              | (go_at_call 14; refine (cut_yes b R I 8 y (Ly ++ [y]) _ (by simp) HS5.out.1).mono ?_; rintro e w6 ⟨rfl, k1, k2⟩; rw [erase_last hyn] at k1; have HS6 := Lib.hid (HS5.out.q k1 k2); clear k1 k2 HS5))
                  go_roundw
                  case rel => exact ⟨k2 + 1, g4, c4, Ly, O2 ++ [y], by omega, by simp, by go_num, HX3, HA3, HS6⟩
                  case measure => simp [intOf]; omega
                · have e1 : ¬ (y : Int) = (x : Int) := by omega
                  have e2 : ¬ (k2 : Int) = at_ := fun a => e (hhd.2 a)
                  have e3 : ((y : Int) == (x : Int)) = false := by simpa using e1
                  have e4 : ((k2 : Int) == at_) = false := by simpa using e2
                  clear hhd HX2 HA2
                  go_wp2_with (first
              | (go_at_call 12; refine (pop_some b R I 8 y Ly _ HS2.out.1).mono ?_; rintro e w3 ⟨rfl, k1, k2⟩; have HS3 := Lib.hid (HS2.out.q k1 k2); clear k1 k2 HS2)
              | (at_builtin; refine wpList_append_rw _ rfl (.tmp 90) (.tmp 92) 25 25 rfl 3 (.int .i64 0) 8 Try.underlying25 info3 rfl g _ c (O2.map iv) rfl (by simp) (HS3.out.arg _).2.2.1 _ rfl 1 _ (Src.ofSlice _ Try.underlying25 ⟨_, 0, none⟩ 1 1 [iv y] rfl (one_cell _ _ _) (one_iv y)) (by omega) (by omega) ?_; intro g4 c4 w4 r1 r2 r3; rw [map_snoc] at r1; have HS4 := Lib.hid ((HS3.out.arg _).outt r1 r2 r3); clear r1 r2 r3 HS3)
              | (go_at_call 11; refine (push_yes b R I 8 y Ly _ hy8 hyn HS4.out.1).mono ?_; rintro e w5 ⟨rfl, k1, k2⟩; have HS5 := Lib.hid (HS4.out.q k1 k2); clear k1 k2 HS4)
              | (go_at_call 14; refine (cut_yes b R I 8 y (Ly ++ [y]) _ (by simp) HS5.out.1).mono ?_; rintro e w6 ⟨rfl, k1, k2⟩; rw [erase_last hyn] at k1; have HS6 := Lib.hid (HS5.out.q k1 k2); clear k1 k2 HS5))
                  go_roundw
                  case rel => exact ⟨k2 + 1, g4, c4, Ly, O2 ++ [y], by omega, by simp, by go_num, HX3, HA3, HS6⟩
                  case measure => simp [intOf]; omega
            · clear HA2
              have hlA : O2.length + L2.length = A.length := by rw [← HX2.out, List.length_append]
              go_wp2_with fail
              refine (list_own b R I 8 L2 _ HS2.out.1).mono ?_
              rintro e w2 ⟨v', rfl, k1, k2, k3⟩
              obtain ⟨g3, c3, rfl, k4, k5, k6⟩ := Rw.of_own k1 k2
              have HS3 := Lib.hid (HS2.out.fresh k3)
              have HR := Lib.hid k5
              clear k1 k2 k3 k4 k5 k6 HS2
              go_wp2_with (first
                | (at_builtin; refine wpList_append_rw _ rfl (.tmp 102) (.tmp 103) 25 25 rfl 3 (.int .i64 0) 8 Try.underlying25 info3 rfl g _ c (O2.map iv) rfl (by simp) HS3.out.2.2.1 _ rfl L2.length _ (Src.ofSlice _ Try.underlying25 ⟨g3, 0, none⟩ L2.length c3 (L2.map iv) (by simp) (Rw.src HR.out) (all_iv L2)) (by omega) (by omega) ?_; intro g4 c4 w3 r1 r2 r3; rw [← List.map_append, HX2.out] at r1; rw [hlA]; have HS4 := Lib.hid (HS3.out.outt r1 r2 r3); clear r1 r2 r3 HS3)
                | (go_at_call 20; refine (same_true g4 0 c4 g1 0 c1 A _ (by omega) (LAt.of_rw HS4.out.2.2.1) (LAt.of_rw HS4.out.2.1)).mono ?_; rintro e w4 ⟨rfl, q4, rfl⟩)
                | (go_at_call 17; refine (lives_any _).mono ?_; rintro e w5 ⟨rfl, hb⟩))
              go_ret
              exact ⟨rfl, (below_drewN HS4.out.2.2.2.1 q4).trans (hb.mono (by simpa using HS4.out.2.2.2.1.size))⟩
          · clear HA2
            have hlA : O2.length + L2.length = A.length := by rw [← HX2.out, List.length_append]
            go_wp2_with fail
            refine (list_own b R I 8 L2 _ HS2.out.1).mono ?_
            rintro e w2 ⟨v', rfl, k1, k2, k3⟩
            obtain ⟨g3, c3, rfl, k4, k5, k6⟩ := Rw.of_own k1 k2
            have HS3 := Lib.hid (HS2.out.fresh k3)
            have HR := Lib.hid k5
            clear k1 k2 k3 k4 k5 k6 HS2
            go_wp2_with (first
              | (at_builtin; refine wpList_append_rw _ rfl (.tmp 102) (.tmp 103) 25 25 rfl 3 (.int .i64 0) 8 Try.underlying25 info3 rfl g _ c (O2.map iv) rfl (by simp) HS3.out.2.2.1 _ rfl L2.length _ (Src.ofSlice _ Try.underlying25 ⟨g3, 0, none⟩ L2.length c3 (L2.map iv) (by simp) (Rw.src HR.out) (all_iv L2)) (by omega) (by omega) ?_; intro g4 c4 w3 r1 r2 r3; rw [← List.map_append, HX2.out] at r1; rw [hlA]; have HS4 := Lib.hid (HS3.out.outt r1 r2 r3); clear r1 r2 r3 HS3)
              | (go_at_call 20; refine (same_true g4 0 c4 g1 0 c1 A _ (by omega) (LAt.of_rw HS4.out.2.2.1) (LAt.of_rw HS4.out.2.1)).mono ?_; rintro e w4 ⟨rfl, q4, rfl⟩)
              | (go_at_call 17; refine (lives_any _).mono ?_; rintro e w5 ⟨rfl, hb⟩))
            go_ret
            exact ⟨rfl, (below_drewN HS4.out.2.2.2.1 q4).trans (hb.mono (by simpa using HS4.out.2.2.2.1.size))⟩
    · have HY0 := HX
      clear HY0
      have hxx : (a1.tmod 8) = (x : Int) := hx
      go_wp2_with fail
      refine (place_any b R I 8 L x _ HS.out.1).mono ?_
      rintro e w1 ⟨rfl, q, rfl⟩
      have HS1 := Lib.hid (HS.out.drewN q)
      clear HS
      revert HS1
      generalize wr.drewN q = w1
      intro HS1
      have hlA0 : O.length + L.length = A.length := by rw [← HX.out, List.length_append]
      have hal := plc_le L x
      have HA0 := Lib.hid (Far.begin L x)
      obtain ⟨at_, hat⟩ : ∃ at_, plc L (x : Int) = at_ := ⟨_, rfl⟩
      rw [hat] at hal HA0
      rw [hat]
      clear hat
      go_wp2_with fail
      go_loopw [7, 13] (fun go i wr => ∃ (k g c : Nat) (L2 O2 : List Nat), k ≤ 30 ∧ go = .slice (some ⟨g, 0, none⟩) O2.length c ∧ i = .int .i64 k ∧ Hid (O2 ++ L2 = A) ∧ Hid (Far L2 x at_ k) ∧ Hid (St w wr b R I L2 g1 c1 A g c O2)) (fun _ i _ => 40 - (intOf i).toNat)
      case atStart => exact ⟨0, g2, c2, L, O, by omega, rfl, rfl, HX, HA0, HS1⟩
      case round =>
        clear HS1 HX HA0
        obtain ⟨k2, g, c, L2, O2, hk30, rfl, rfl, HX2, HA2, HS2⟩ := hrel
        by_cases h0 : 0 ≤ at_
        · by_cases hka : (k2 : Int) ≤ at_
          · cases L2 with
            | nil => exact absurd (HA2.out hka).1 (by simp)
            | cons y Ly =>
              have hhd := HA2.out.head hka
              have HA3 := Lib.hid (HA2.out.next hka)
              have hyn : ¬ y ∈ Ly := (List.nodup_cons.1 HS2.out.1.2.1).1
              have hy8 : y < 8 := HS2.out.1.2.2.1 y (by simp)
              have hlA : O2.length + (Ly.length + 1) = A.length := by rw [← HX2.out, List.length_append]; rfl
              have HX3 : Hid ((O2 ++ [y]) ++ Ly = A) := Lib.hid (by rw [← HX2.out, List.append_assoc]; rfl)
              by_cases e : y = x
              · subst e
                have e2 : (k2 : Int) = at_ := hhd.1 rfl
                subst e2
                clear hhd HX2 HA2
                go_wp2_with (first
            | (go_at_call 12; refine (pop_some b R I 8 y Ly _ HS2.out.1).mono ?_; rintro e w3 ⟨rfl, k1, k2⟩; have HS3 := Lib.hid (HS2.out.q k1 k2); clear k1 k2 HS2)
            | (at_builtin; refine wpList_append_rw _ rfl (.tmp 90) (.tmp 92) 25 25 rfl 3 (.int .i64 0) 8 Try.underlying25 info3 rfl g _ c (O2.map iv) rfl (by simp) (HS3.out.arg _).2.2.1 _ rfl 1 _ (Src.ofSlice _ Try.underlying25 ⟨_, 0, none⟩ 1 1 [iv y] rfl (one_cell _ _ _) (one_iv y)) (by omega) (by omega) ?_; intro g4 c4 w4 r1 r2 r3; rw [map_snoc] at r1; have HS4 := Lib.hid ((HS3.out.arg _).outt r1 r2 r3); clear r1 r2 r3 HS3)
            | (go_at_call 11; refine (push_yes b R I 8 y Ly _ hy8 hyn HS4.out.1).mono ?_; rintro e w5 ⟨rfl, k1, k2⟩; have HS5 := Lib.hid (HS4.out.q k1 k2); clear k1 k2 HS4)
            | (go_at_call 14; refine (cut_yes b R I 8 y (Ly ++ [y]) _ (by simp) HS5.out.1).mono ?_; rintro e w6 ⟨rfl, k1, k2⟩; rw [erase_last hyn] at k1; have HS6 := Lib.hid (HS5.out.q k1 k2); clear k1 k2 HS5))
                go_roundw
                case rel => exact ⟨k2 + 1, g4, c4, Ly, O2 ++ [y], by omega, by simp, by go_num, HX3, HA3, HS6⟩
                case measure => simp [intOf]; omega
              · have e1 : ¬ (y : Int) = (x : Int) := by omega
                have e2 : ¬ (k2 : Int) = at_ := fun a => e (hhd.2 a)
                have e3 : ((y : Int) == (x : Int)) = false := by simpa using e1
                have e4 : ((k2 : Int) == at_) = false := by simpa using e2
                clear hhd HX2 HA2
                go_wp2_with (first
            | (go_at_call 12; refine (pop_some b R I 8 y Ly _ HS2.out.1).mono ?_; rintro e w3 ⟨rfl, k1, k2⟩; have HS3 := Lib.hid (HS2.out.q k1 k2); clear k1 k2 HS2)
            | (at_builtin; refine wpList_append_rw _ rfl (.tmp 90) (.tmp 92) 25 25 rfl 3 (.int .i64 0) 8 Try.underlying25 info3 rfl g _ c (O2.map iv) rfl (by simp) (HS3.out.arg _).2.2.1 _ rfl 1 _ (Src.ofSlice _ Try.underlying25 ⟨_, 0, none⟩ 1 1 [iv y] rfl (one_cell _ _ _) (one_iv y)) (by omega) (by omega) ?_; intro g4 c4 w4 r1 r2 r3; rw [map_snoc] at r1; have HS4 := Lib.hid ((HS3.out.arg _).outt r1 r2 r3); clear r1 r2 r3 HS3)
            | (go_at_call 11; refine (push_yes b R I 8 y Ly _ hy8 hyn HS4.out.1).mono ?_; rintro e w5 ⟨rfl, k1, k2⟩; have HS5 := Lib.hid (HS4.out.q k1 k2); clear k1 k2 HS4)
            | (go_at_call 14; refine (cut_yes b R I 8 y (Ly ++ [y]) _ (by simp) HS5.out.1).mono ?_; rintro e w6 ⟨rfl, k1, k2⟩; rw [erase_last hyn] at k1; have HS6 := Lib.hid (HS5.out.q k1 k2); clear k1 k2 HS5))
                go_roundw
                case rel => exact ⟨k2 + 1, g4, c4, Ly, O2 ++ [y], by omega, by simp, by go_num, HX3, HA3, HS6⟩
                case measure => simp [intOf]; omega
          · clear HA2
            have hlA : O2.length + L2.length = A.length := by rw [← HX2.out, List.length_append]
            go_wp2_with fail
            refine (list_own b R I 8 L2 _ HS2.out.1).mono ?_
            rintro e w2 ⟨v', rfl, k1, k2, k3⟩
            obtain ⟨g3, c3, rfl, k4, k5, k6⟩ := Rw.of_own k1 k2
            have HS3 := Lib.hid (HS2.out.fresh k3)
            have HR := Lib.hid k5
            clear k1 k2 k3 k4 k5 k6 HS2
            go_wp2_with (first
              | (at_builtin; refine wpList_append_rw _ rfl (.tmp 102) (.tmp 103) 25 25 rfl 3 (.int .i64 0) 8 Try.underlying25 info3 rfl g _ c (O2.map iv) rfl (by simp) HS3.out.2.2.1 _ rfl L2.length _ (Src.ofSlice _ Try.underlying25 ⟨g3, 0, none⟩ L2.length c3 (L2.map iv) (by simp) (Rw.src HR.out) (all_iv L2)) (by omega) (by omega) ?_; intro g4 c4 w3 r1 r2 r3; rw [← List.map_append, HX2.out] at r1; rw [hlA]; have HS4 := Lib.hid (HS3.out.outt r1 r2 r3); clear r1 r2 r3 HS3)
              | (go_at_call 20; refine (same_true g4 0 c4 g1 0 c1 A _ (by omega) (LAt.of_rw HS4.out.2.2.1) (LAt.of_rw HS4.out.2.1)).mono ?_; rintro e w4 ⟨rfl, q4, rfl⟩)
              | (go_at_call 17; refine (lives_any _).mono ?_; rintro e w5 ⟨rfl, hb⟩))
            go_ret
            exact ⟨rfl, (below_drewN HS4.out.2.2.2.1 q4).trans (hb.mono (by simpa using HS4.out.2.2.2.1.size))⟩
        · clear HA2
          have hlA : O2.length + L2.length = A.length := by rw [← HX2.out, List.length_append]
          go_wp2_with fail
          refine (list_own b R I 8 L2 _ HS2.out.1).mono ?_
          rintro e w2 ⟨v', rfl, k1, k2, k3⟩
          obtain ⟨g3, c3, rfl, k4, k5, k6⟩ := Rw.of_own k1 k2
          have HS3 := Lib.hid (HS2.out.fresh k3)
          have HR := Lib.hid k5
          clear k1 k2 k3 k4 k5 k6 HS2
          go_wp2_with (first
            | (at_builtin; refine wpList_append_rw _ rfl (.tmp 102) (.tmp 103) 25 25 rfl 3 (.int .i64 0) 8 Try.underlying25 info3 rfl g _ c (O2.map iv) rfl (by simp) HS3.out.2.2.1 _ rfl L2.length _ (Src.ofSlice _ Try.underlying25 ⟨g3, 0, none⟩ L2.length c3 (L2.map iv) (by simp) (Rw.src HR.out) (all_iv L2)) (by omega) (by omega) ?_; intro g4 c4 w3 r1 r2 r3; rw [← List.map_append, HX2.out] at r1; rw [hlA]; have HS4 := Lib.hid (HS3.out.outt r1 r2 r3); clear r1 r2 r3 HS3)
            | (go_at_call 20; refine (same_true g4 0 c4 g1 0 c1 A _ (by omega) (LAt.of_rw HS4.out.2.2.1) (LAt.of_rw HS4.out.2.1)).mono ?_; rintro e w4 ⟨rfl, q4, rfl⟩)
            | (go_at_call 17; refine (lives_any _).mono ?_; rintro e w5 ⟨rfl, hb⟩))
          go_ret
          exact ⟨rfl, (below_drewN HS4.out.2.2.2.1 q4).trans (hb.mono (by simpa using HS4.out.2.2.2.1.size))⟩

set_option maxRecDepth 100000 in
theorem lifted (os : Os) (started : os.Started) (H : Type) (enc : TypeId × Value → H) :
    ReturnsInHanded {} Try.checked os 4 .any (Rows.fifoOrdersSpec.pre6 enc Try.prog Try.f4 Rows.fifoOrdersRow.domain false) (Rows.fifoOrdersSpec.post enc Try.prog Try.f4 false true false false) := by
  refine returnsInHanded_of_change (C := Try.checked) ownKn started (by kernel_rfl) Try.func4
    (ChangeSpec.witness6 (enc := enc) (C := Try.checked) false ⟨#[], #[.slice none 0 0, .int .u8 0], []⟩ 8 (by kernel_rfl) (by kernel_rfl) (by kernel_rfl) (by kernel_rfl)) ?_
  intro W base args ds gs before hval0 hW hcnd _
  have hval : ∀ (j : Nat) t v, Try.f4.params[j]? = some t → args[j]? = some v → Value.okWide Try.prog W .any base t v := hval0
  have hW' := hW
  obtain ⟨p, q, hA0, hV, rfl, hfz, hnd⟩ := hW
  have hA : DataW.TrodAll enc Try.prog W 0 (fun _ => true) true Try.f4.params.toList args.toList ds p := hA0
  rw [Try.params4] at hA hval
  obtain ⟨v0, vs0, d0, ds0, p0, q0, hargs, rfl, rfl, h0, r0⟩ := trodAll_cons hA
  obtain ⟨v1, vs1, d1, ds1, p1, q1, rfl, rfl, rfl, h1, r1⟩ := trodAll_cons r0
  obtain ⟨rfl, rfl, rfl⟩ := trodAll_nil r1
  obtain rfl : args = #[v0, v1] := by cases args; simp_all
  obtain ⟨rfl, rfl⟩ := trodVars_none hV
  have k0 := h0
  have lt0 : ∀ x ∈ p0, x.block < W.heap.size := by obtain ⟨m, hm⟩ := k0; exact DataW.trod_lt m _ _ _ hm
  obtain ⟨b0, lb0, cb0, rfl⟩ := okWide_slice Try.underlying40 (hval 0 40 v0 rfl rfl)
  obtain ⟨fu0, hf0⟩ := h0
  simp only [Value.cells] at hf0
  obtain ⟨a0, len0, cap0, z0, e0, w0⟩ := fld_row Try.underlying40 Try.underlying5 (by kernel_rfl) hf0
  obtain ⟨rfl, rfl, rfl⟩ : b0 = a0 ∧ lb0 = len0 ∧ cb0 = cap0 := by simpa using e0
  have k1 := h1
  have lt1 : ∀ x ∈ p1, x.block < W.heap.size := by obtain ⟨m, hm⟩ := k1; exact DataW.trod_lt m _ _ _ hm
  obtain ⟨a1, rfl, rfl, rfl, w1⟩ := open_int Try.underlying5 (hval 1 5 v1 rfl rfl) h1
  clear hA0 hval0
  refine (walk b0 lb0 cb0 z0 a1 W w0 w1).mono fun e W' ⟨he, bel⟩ => ?_
  subst he
  exact ⟨_, rfl, _, _, _, [], _, [], hW', trodAll_mk1 (shut_bool Try.underlying4 _), (trodAll_cons_mk (Below.trod laidOut (by kernel_rfl) (of_decide_eq_true (by kernel_rfl)) k0 bel lt0) (trodAll_cons_mk (Below.trod laidOut (by kernel_rfl) (of_decide_eq_true (by kernel_rfl)) k1 bel lt1) trodAll_mk0)), rfl, bel.frame _, fun h => by cases h⟩

theorem over : Rows.fifoOrdersRow.holds Try.pinned (OpenSpec.ofChange Rows.fifoOrdersSpec) :=
  OpenClaim.holds_of_wide 4 Try.f4 rfl rfl rfl rfl rfl rfl rfl ⟨rfl, rfl, rfl, rfl, rfl⟩ rfl rfl rfl rfl rfl (by kernel_rfl) Try.func4 (by kernel_rfl)
    (of_decide_eq_true (by kernel_rfl)) (by unfold Func.isWrapper; first | (rw [if_pos (by decide +kernel)]; kernel_rfl) | (rw [if_neg (by decide +kernel)]; exact ⟨rfl, rfl⟩))
    (fun os started H enc _ => lifted os started H enc)

/-- The statement. -/
theorem proved : Rows.FifoOrdersSaid := over
#print axioms proved
end Go.Proofs.Ytnimbfllefbjgaa.fifoOrders
