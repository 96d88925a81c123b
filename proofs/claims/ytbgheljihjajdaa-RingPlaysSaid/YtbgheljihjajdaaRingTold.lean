/- What a ring tells, held against the document's own answer (package reparteelaw03, told). -/
import Derived.Test.YtbgheljihjajdaaRingRef
import Derived.Test.YtbgheljihjajdaaClass
namespace Go.Proofs.Ytbgheljihjajdaa
open Go.ChangeShapes Go.WideShapes Go.ChangeAt Go.RowKit
set_option linter.unusedSimpArgs false
set_option linter.unusedVariables false

theorem pk_most (S : ByteArray) (n : Nat) (h : S.size ≤ n) : pk S 0 n = S := by
  rw [pk_zero, show clN n S.size = S.size by (unfold clN; rw [if_neg (by omega)]; omega), cut_whole]
set_option maxRecDepth 20000 in
set_option maxHeartbeats 4000000 in
theorem told_any (b g n f : Nat) (S : ByteArray) (a k : Int) (w : World) (h : RAt w b g n f S) :
    Calls Try.prog 9 #[.pointer (some ⟨b, 0, none⟩), .agg #[.string S, .int .i64 n], .int .i64 a, .int .i64 k] w fun e w' => e = .returned (.bool true) ∧ Below w.heap.size w w' := by
  have hS := h.2.2.2.1
  have hn := h.2.1
  have HR := Lib.hid h
  have HP := Lib.hid (pk_most S n hS)
  have hs1 : IntKind.i64.wrap ((n : Int) - (S.size : Int)) = ((n - S.size : Nat) : Int) := by rw [IntWalk.i64_in _ (by omega)]; omega
  have hp := pk_most S n hS
  clear h
  by_cases ha : a < 0 ∨ (S.size : Int) ≤ a
  · have HA := Lib.hid ha
    clear ha
    go_enter Try.func9, Try.ntmps9
    have hW : Hid (RAt (w.alloc (Obj.cells #[Value.string S, Value.int .i64 n] 28)) b g n f S ∧ Blk (w.alloc (Obj.cells #[Value.string S, Value.int .i64 n] 28)) w.heap.size [.string S, .int .i64 n] 28 ∧ Below w.heap.size w (w.alloc (Obj.cells #[Value.string S, Value.int .i64 n] 28))) :=
      ⟨HR.out.fresh ((Below.refl _ _).alloc (Nat.le_refl _) _), Blk.newA w _ _, (Below.refl _ _).alloc (Nat.le_refl _) _⟩
    go_wp2_with fail
    revert hW
    generalize (w.alloc (Obj.cells #[Value.string S, Value.int .i64 n] 28)) = W1
    intro hW
    refine (at_no b g n f S a _ hW.out.1 HA.out).mono ?_
    rintro e w2 ⟨rfl, rfl⟩
    go_wp2_with fail
    refine wp_region_class (fun w' => RAt w' b g n f S ∧ Blk w' w.heap.size [.string S, .int .i64 n] 28 ∧ Below w.heap.size w w') (by kernel_rfl) (by kernel_rfl) ⟨hW.out.1.drew, hW.out.2.1.drew, hW.out.2.2.drew⟩ ?_
    repeat (first
        | go_big_quiet_skip
        | (go_big_quiet_want
           unfold Oper.quiet
           apply Exists.intro
           refine ⟨fun wq hwq => ?_, ?_⟩
           · (obtain ⟨hq1, hq2, hq3⟩ := hwq
              have c0 := hq2.cell (i := 0) rfl
              have c1 := hq2.cell (i := 1) rfl
              unfold Oper.quietAt
              go_simp
              first
                | exact ⟨rfl, hq1, hq2, hq3⟩
                | exact rfl
                | (go_at_call 17; refine (len_any _ _ _ _ _ _ hq1).mono ?_; rintro e w3 ⟨he, rfl⟩; exact ⟨he, hq1, hq2, hq3⟩)
                | (go_at_call 18; refine (room_any _ _ _ _ _ _ hq1).mono ?_; rintro e w3 ⟨he, rfl⟩; exact ⟨he, hq1, hq2, hq3⟩)
                | (go_at_call 19; refine (most_any _ _ _ _ _ _ hq1).mono ?_; rintro e w3 ⟨he, rfl⟩; exact ⟨he, hq1, hq2, hq3⟩)
                | (go_at_call 21; refine (peek_any _ _ _ _ _ _ _ _ hq1).mono ?_; rintro e w3 ⟨he, hb⟩; exact ⟨he, hq1.fresh hb, hq2.below hb hq2.lt, hq3.trans (hb.mono hq3.size)⟩)
                | (go_at_call 24; refine (ref_peek _ _ _ _ _ (by omega)).mono ?_; rintro e w3 ⟨he, hb⟩; exact ⟨he, hq1.fresh hb, hq2.below hb hq2.lt, hq3.trans (hb.mono hq3.size)⟩))
           simp only [Act.put, List.setIfInBounds_toArray, List.set_cons_zero, List.set_cons_succ]
           go_big_quiet_on))
    refine wpQuiet_nil ?_
    intro w4 hw4
    obtain ⟨hq1, hq2, hq3⟩ := hw4
    have c0 := hq2.cell (i := 0) rfl
    have HB := Lib.hid hq3
    clear hq1 hq2 hq3
    rcases HA.out with h | h
    · go_wp2
      go_ret
      exact ⟨rfl, HB.out⟩
    · by_cases h2 : a < 0
      · go_wp2
        go_ret
        exact ⟨rfl, HB.out⟩
      · go_wp2
        go_ret
        exact ⟨rfl, HB.out⟩
  · obtain ⟨j, rfl⟩ : ∃ j : Nat, a = (j : Int) := ⟨a.toNat, by omega⟩
    have hj : j < S.size := by omega
    obtain ⟨z, hz⟩ : ∃ z : Int, (S[j].toNat : Int) = z := ⟨_, rfl⟩
    have HZ := Lib.hid hz
    have j1 : (0 : Int) ≤ (j : Int) := by omega
    have j2 : (j : Int) < (S.size : Int) := by omega
    clear ha
    go_enter Try.func9, Try.ntmps9
    have hW : Hid (RAt (w.alloc (Obj.cells #[Value.string S, Value.int .i64 n] 28)) b g n f S ∧ Blk (w.alloc (Obj.cells #[Value.string S, Value.int .i64 n] 28)) w.heap.size [.string S, .int .i64 n] 28 ∧ Below w.heap.size w (w.alloc (Obj.cells #[Value.string S, Value.int .i64 n] 28))) :=
      ⟨HR.out.fresh ((Below.refl _ _).alloc (Nat.le_refl _) _), Blk.newA w _ _, (Below.refl _ _).alloc (Nat.le_refl _) _⟩
    go_wp2_with fail
    revert hW
    generalize (w.alloc (Obj.cells #[Value.string S, Value.int .i64 n] 28)) = W1
    intro hW
    refine (at_yes b g n f j S z _ hW.out.1 hj HZ.out).mono ?_
    rintro e w2 ⟨rfl, q, rfl⟩
    have hV : Hid (RAt (W1.drewN q) b g n f S ∧ Blk (W1.drewN q) w.heap.size [.string S, .int .i64 n] 28 ∧ Below w.heap.size w (W1.drewN q)) := ⟨hW.out.1.drewN q, hW.out.2.1.drewN q, below_drewN hW.out.2.2 q⟩
    clear hW
    revert hV
    generalize W1.drewN q = W2
    intro hW
    go_wp2_with fail
    refine wp_region_class (fun w' => RAt w' b g n f S ∧ Blk w' w.heap.size [.string S, .int .i64 n] 28 ∧ Below w.heap.size w w') (by kernel_rfl) (by kernel_rfl) ⟨hW.out.1.drew, hW.out.2.1.drew, hW.out.2.2.drew⟩ ?_
    repeat (first
        | go_big_quiet_skip
        | (go_big_quiet_want
           unfold Oper.quiet
           apply Exists.intro
           refine ⟨fun wq hwq => ?_, ?_⟩
           · (obtain ⟨hq1, hq2, hq3⟩ := hwq
              have c0 := hq2.cell (i := 0) rfl
              have c1 := hq2.cell (i := 1) rfl
              unfold Oper.quietAt
              go_simp
              first
                | exact ⟨rfl, hq1, hq2, hq3⟩
                | exact rfl
                | (go_at_call 17; refine (len_any _ _ _ _ _ _ hq1).mono ?_; rintro e w3 ⟨he, rfl⟩; exact ⟨he, hq1, hq2, hq3⟩)
                | (go_at_call 18; refine (room_any _ _ _ _ _ _ hq1).mono ?_; rintro e w3 ⟨he, rfl⟩; exact ⟨he, hq1, hq2, hq3⟩)
                | (go_at_call 19; refine (most_any _ _ _ _ _ _ hq1).mono ?_; rintro e w3 ⟨he, rfl⟩; exact ⟨he, hq1, hq2, hq3⟩)
                | (go_at_call 21; refine (peek_any _ _ _ _ _ _ _ _ hq1).mono ?_; rintro e w3 ⟨he, hb⟩; exact ⟨he, hq1.fresh hb, hq2.below hb hq2.lt, hq3.trans (hb.mono hq3.size)⟩)
                | (go_at_call 24; refine (ref_peek _ _ _ _ _ (by omega)).mono ?_; rintro e w3 ⟨he, hb⟩; exact ⟨he, hq1.fresh hb, hq2.below hb hq2.lt, hq3.trans (hb.mono hq3.size)⟩))
           simp only [Act.put, List.setIfInBounds_toArray, List.set_cons_zero, List.set_cons_succ]
           go_big_quiet_on))
    refine wpQuiet_nil ?_
    intro w4 hw4
    obtain ⟨hq1, hq2, hq3⟩ := hw4
    have c0 := hq2.cell (i := 0) rfl
    have HB := Lib.hid hq3
    clear hq1 hq2 hq3
    go_wp2
    trace_state
    go_ret
    exact ⟨rfl, HB.out⟩
end Go.Proofs.Ytbgheljihjajdaa
