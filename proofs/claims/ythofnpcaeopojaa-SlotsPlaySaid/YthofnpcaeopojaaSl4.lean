/- Layer 28's own check. -/
import Derived.Test.YthofnpcaeopojaaSl3
namespace Go.Proofs.Ythofnpcaeopojaa
open Go.ChangeShapes Go.WideShapes Go.ChangeAt Go.RowKit
set_option linter.unusedSimpArgs false
set_option linter.unusedVariables false

/-- Slots of the call's own. -/
def SB (w0 w : World) (s g m n : Nat) (W : List Int) (M : List (Int × Int × Nat)) (c : Nat) (nx : Int) : Prop := SA w s g m n W M c nx ∧ Below w0.heap.size w0 w ∧ (w0.heap.size ≤ s ∧ w0.heap.size ≤ g ∧ w0.heap.size ≤ m)
theorem SB.to {w0 w w' : World} {s g m n : Nat} {W W' : List Int} {M M' : List (Int × Int × Nat)} {c c' : Nat} {nx nx' : Int} (h : SB w0 w s g m n W M c nx) (k : SA w' s g m n W' M' c' nx') {l : List Nat} (hc : Chg l w w') (hl : ∀ x ∈ l, x = s ∨ x = g ∨ x = m) : SB w0 w' s g m n W' M' c' nx' :=
  ⟨k, hc.onto h.2.1 h.2.1.size (fun x hx => by have := h.2.2; rcases hl x hx with e | e | e <;> omega), h.2.2⟩
theorem SB.fresh {w0 w w' : World} {s g m n : Nat} {W : List Int} {M : List (Int × Int × Nat)} {c : Nat} {nx : Int} (h : SB w0 w s g m n W M c nx) (k : Below w.heap.size w w') : SB w0 w' s g m n W M c nx := ⟨h.1.fresh k, h.2.1.trans (k.mono h.2.1.size), h.2.2⟩
theorem SB.bel {w0 w : World} {s g m n : Nat} {W : List Int} {M : List (Int × Int × Nat)} {c : Nat} {nx : Int} (h : SB w0 w s g m n W M c nx) : Below w0.heap.size w0 w := h.2.1
theorem sb_new (most : Int) (n : Nat) (w : World) (hn : min (max most 1) 1024 = (n : Int)) :
    Calls Try.prog 7 #[.int .i64 most] w fun e w' => ∃ s g m : Nat, e = .returned (.pointer (some ⟨s, 0, none⟩)) ∧ SB w w' s g m n (List.replicate n (-1)) [] 0 0 :=
  (sl_new most n w hn).mono fun e w' ⟨s, g, m, he, k1, k2, k3⟩ => ⟨s, g, m, he, k1, k2, k3⟩
theorem three (s g m : Nat) : ∀ x ∈ [s, g, m], x = s ∨ x = g ∨ x = m := by intro x hx; simpa using hx
theorem oneS (s g m : Nat) : ∀ x ∈ [s], x = s ∨ x = g ∨ x = m := by intro x hx; simp at hx; exact Or.inl hx
theorem op_a {w0 w : World} {s g m : Nat} (h : SB w0 w s g m 2 [-1, -1] [] 0 0) : Calls Try.prog 10 #[.pointer (some ⟨s, 0, none⟩)] w fun e w' => e = .returned (.tuple #[.int .i64 0, .int .i64 0, .bool true]) ∧ SB w0 w' s g m 2 [0, -1] [(0, 0, 0)] 1 1 :=
  (sl_open s g m 2 [-1, -1] [] 0 0 0 w (by decide) (by decide) (by decide) (by decide) (by decide) (by decide) (by decide) h.1).mono fun e w' ⟨he, k1, k2⟩ => ⟨he, h.to k1 k2 (three s g m)⟩
theorem op_b {w0 w : World} {s g m : Nat} (h : SB w0 w s g m 2 [0, -1] [(0, 0, 0)] 1 1) : Calls Try.prog 10 #[.pointer (some ⟨s, 0, none⟩)] w fun e w' => e = .returned (.tuple #[.int .i64 1, .int .i64 1, .bool true]) ∧ SB w0 w' s g m 2 [0, 1] [(0, 0, 0), (1, 1, 1)] 2 2 :=
  (sl_open s g m 2 [0, -1] [(0, 0, 0)] 1 1 1 w (by decide) (by decide) (by decide) (by decide) (by decide) (by decide) (by decide) h.1).mono fun e w' ⟨he, k1, k2⟩ => ⟨he, h.to k1 k2 (three s g m)⟩
theorem op_c {w0 w : World} {s g m : Nat} (h : SB w0 w s g m 2 [-1, 1] [(1, 1, 1)] 2 3) : Calls Try.prog 10 #[.pointer (some ⟨s, 0, none⟩)] w fun e w' => e = .returned (.tuple #[.int .i64 3, .int .i64 0, .bool true]) ∧ SB w0 w' s g m 2 [3, 1] [(1, 1, 1), (3, 0, 2)] 3 4 :=
  (sl_open s g m 2 [-1, 1] [(1, 1, 1)] 2 3 0 w (by decide) (by decide) (by decide) (by decide) (by decide) (by decide) (by decide) h.1).mono fun e w' ⟨he, k1, k2⟩ => ⟨he, h.to k1 k2 (three s g m)⟩
theorem op_full {w0 w : World} {s g m : Nat} (h : SB w0 w s g m 2 [0, 1] [(0, 0, 0), (1, 1, 1)] 2 2) : Calls Try.prog 10 #[.pointer (some ⟨s, 0, none⟩)] w fun e w' => e = .returned (.tuple #[.int .i64 0, .int .i64 0, .bool false]) ∧ w = w' :=
  sl_open_full s g m 2 [0, 1] [(0, 0, 0), (1, 1, 1)] 2 2 w (by decide) (by decide) (by decide) h.1
theorem cl_a {w0 w : World} {s g m : Nat} (h : SB w0 w s g m 2 [0, 1] [(0, 0, 0), (1, 1, 1)] 2 2) : Calls Try.prog 12 #[.pointer (some ⟨s, 0, none⟩), .int .i64 0] w fun e w' => e = .returned (.bool true) ∧ SB w0 w' s g m 2 [-1, 1] [(1, 1, 1)] 2 2 :=
  (sl_close s g m 2 [0, 1] [(0, 0, 0), (1, 1, 1)] 2 2 0 0 0 w (by decide) (by decide) h.1 (by decide)).mono fun e w' ⟨he, k1, k2⟩ => ⟨he, h.to k1 k2 (three s g m)⟩
theorem sk_a {w0 w : World} {s g m : Nat} (h : SB w0 w s g m 2 [-1, 1] [(1, 1, 1)] 2 2) : Calls Try.prog 11 #[.pointer (some ⟨s, 0, none⟩)] w fun e w' => e = .returned (.int .i64 2) ∧ SB w0 w' s g m 2 [-1, 1] [(1, 1, 1)] 2 3 :=
  (sl_skip s g m 2 [-1, 1] [(1, 1, 1)] 2 2 w (by decide) (by decide) h.1).mono fun e w' ⟨he, k1, k2⟩ => ⟨he, h.to k1 k2 (oneS s g m)⟩
theorem new_2 (w : World) : Calls Try.prog 7 #[.int .i64 2] w fun e w' => ∃ s g m : Nat, e = .returned (.pointer (some ⟨s, 0, none⟩)) ∧ SB w w' s g m 2 [-1, -1] [] 0 0 := sb_new 2 2 w (by decide)
set_option maxRecDepth 20000 in
set_option maxHeartbeats 2000000 in
theorem sl_lives (w : World) : Calls Try.prog 16 #[] w fun e w' => e = .returned (.bool true) ∧ Below w.heap.size w w' := by
  go_enter Try.func16, Try.ntmps16
  go_wp2_with (first
    | (go_at_call 7; refine (new_2 _).mono ?_; rintro e w1 ⟨s, g, m, rfl, k1⟩; have H0 := Lib.hid k1; clear k1)
    | (go_at_call 10; with_reducible refine (op_a H0.out).mono ?_; rintro e w2 ⟨rfl, k1⟩; have H1 := Lib.hid k1; clear k1)
    | (go_at_call 10; with_reducible refine (op_b H1.out).mono ?_; rintro e w3 ⟨rfl, k1⟩; have H2 := Lib.hid k1; clear k1)
    | (go_at_call 10; with_reducible refine (op_full H2.out).mono ?_; rintro e w4 ⟨rfl, rfl⟩)
    | (go_at_call 12; with_reducible refine (cl_a H2.out).mono ?_; rintro e w5 ⟨rfl, k1⟩; have H3 := Lib.hid k1; clear k1)
    | (go_at_call 11; with_reducible refine (sk_a H3.out).mono ?_; rintro e w6 ⟨rfl, k1⟩; have H4 := Lib.hid k1; clear k1)
    | (go_at_call 10; with_reducible refine (op_c H4.out).mono ?_; rintro e w7 ⟨rfl, k1⟩; have H5 := Lib.hid (SB.bel k1); clear k1))
  go_ret
  exact ⟨rfl, H5.out⟩
end Go.Proofs.Ythofnpcaeopojaa
