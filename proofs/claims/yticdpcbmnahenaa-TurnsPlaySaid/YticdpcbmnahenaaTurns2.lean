/- Turns that are none; and what the layer's literal comes to. -/
import Derived.Test.YticdpcbmnahenaaTurns
namespace Go.Proofs.Yticdpcbmnahenaa
open Go.ChangeShapes Go.WideShapes Go.ChangeAt Go.RowKit
set_option linter.unusedSimpArgs false
set_option linter.unusedVariables false

theorem t_whose_nil  (w : World) :
    Calls Try.prog 22 #[.pointer none] w fun e w' => e = .returned (.tuple #[.int .i64 0, .bool false]) ∧ w = w' := by
  go_enter Try.func22, Try.ntmps22
  go_wp2
  all_goals
    first | go_ret2 | go_ret
    exact ⟨rfl, rfl⟩
theorem t_waits_nil (id : Int) (w : World) :
    Calls Try.prog 24 #[.pointer none, .int .i64 id] w fun e w' => e = .returned (.bool false) ∧ w = w' := by
  go_enter Try.func24, Try.ntmps24
  go_wp2_with (first | (go_at_call 22; with_reducible refine (t_whose_nil _).mono ?_; rintro e w' ⟨rfl, rfl⟩))
  all_goals
    first | go_ret2 | go_ret
    exact ⟨rfl, rfl⟩
theorem t_wake_nil (id : Int) (w : World) :
    Calls Try.prog 10 #[.pointer none, .int .i64 id] w fun e w' => e = .returned (.bool false) ∧ w = w' := by
  go_enter Try.func10, Try.ntmps10
  go_wp2_with (first | (go_at_call 24; with_reducible refine (t_waits_nil id _).mono ?_; rintro e w' ⟨rfl, rfl⟩))
  all_goals
    first | go_ret2 | go_ret
    exact ⟨rfl, rfl⟩
theorem t_begin_nil  (w : World) :
    Calls Try.prog 12 #[.pointer none] w fun e w' => e = .returned (.tuple #[.int .i64 0, .bool false]) ∧ w = w' := by
  go_enter Try.func12, Try.ntmps12
  go_wp2
  all_goals
    first | go_ret2 | go_ret
    exact ⟨rfl, rfl⟩
theorem t_pay_nil (n : Int) (w : World) :
    Calls Try.prog 14 #[.pointer none, .int .i64 n] w fun e w' => e = .returned (.bool false) ∧ w = w' := by
  go_enter Try.func14, Try.ntmps14
  go_wp2_with (first | (go_at_call 22; with_reducible refine (t_whose_nil _).mono ?_; rintro e w' ⟨rfl, rfl⟩))
  all_goals
    first | go_ret2 | go_ret
    exact ⟨rfl, rfl⟩
theorem t_end_nil (again : Bool) (w : World) :
    Calls Try.prog 16 #[.pointer none, .bool again] w fun e w' => e = .returned (.bool false) ∧ w = w' := by
  go_enter Try.func16, Try.ntmps16
  go_wp2_with (first | (go_at_call 22; with_reducible refine (t_whose_nil _).mono ?_; rintro e w' ⟨rfl, rfl⟩))
  all_goals
    first | go_ret2 | go_ret
    exact ⟨rfl, rfl⟩
theorem t_leave_nil (id : Int) (w : World) :
    Calls Try.prog 18 #[.pointer none, .int .i64 id] w fun e w' => e = .returned (.bool false) ∧ w = w' := by
  go_enter Try.func18, Try.ntmps18
  go_wp2_with (first | (go_at_call 24; with_reducible refine (t_waits_nil id _).mono ?_; rintro e w' ⟨rfl, rfl⟩))
  all_goals
    first | go_ret2 | go_ret
    exact ⟨rfl, rfl⟩
theorem t_has_nil (id : Int) (w : World) :
    Calls Try.prog 23 #[.pointer none, .int .i64 id] w fun e w' => e = .returned (.int .i64 0) ∧ w = w' := by
  go_enter Try.func23, Try.ntmps23
  go_wp2
  all_goals
    first | go_ret2 | go_ret
    exact ⟨rfl, rfl⟩
theorem t_list_nil  (w : World) :
    Calls Try.prog 25 #[.pointer none] w fun e w' => e = .returned (.slice none 0 0) ∧ w = w' := by
  go_enter Try.func25, Try.ntmps25
  go_wp2
  all_goals
    first | go_ret2 | go_ret
    exact ⟨rfl, rfl⟩
theorem t_done_nil  (w : World) :
    Calls Try.prog 26 #[.pointer none] w fun e w' => e = .returned (.int .i64 0) ∧ w = w' := by
  go_enter Try.func26, Try.ntmps26
  go_wp2
  all_goals
    first | go_ret2 | go_ret
    exact ⟨rfl, rfl⟩
theorem t_wake_at (t b R I p h n : Nat) (q : Int) (on : Bool) (who dn : Nat) (L : List Nat) (V : List Int) (x : Nat) (id : Int) (hid : id = (x : Int)) (w : World) (hx : x < n) (hn : tW on who L (x : Int) = false) (a : TAt w t b R I p h n q on who dn L V) :
    Calls Try.prog 10 #[.pointer (some ⟨t, 0, none⟩), .int .i64 id] w fun e w' => e = .returned (.bool true) ∧ TAt w' t b R I p h n q on who dn (L ++ [x]) V ∧ Chg [b, R, I] w w' := by
  subst hid
  exact t_wake_yes t b R I p h n q on who dn L V w x hx a hn
/-- How far it came: the turns, and what has changed since. -/
def TS (w0 w : World) (t b R I p h n : Nat) (q : Int) (on : Bool) (who dn : Nat) (L : List Nat) (V : List Int) : Prop :=
  TAt w t b R I p h n q on who dn L V ∧ Below w0.heap.size w0 w ∧ (w0.heap.size ≤ t ∧ w0.heap.size ≤ b ∧ w0.heap.size ≤ R ∧ w0.heap.size ≤ I ∧ w0.heap.size ≤ p ∧ w0.heap.size ≤ h)
section
variable {w0 w w' : World} {t b R I p h n : Nat} {q : Int} {on : Bool} {who dn : Nat} {L : List Nat} {V : List Int}
theorem TS.to {on' : Bool} {who' dn' : Nat} {L' : List Nat} {V' : List Int} {l : List Nat} (s : TS w0 w t b R I p h n q on who dn L V) (a : TAt w' t b R I p h n q on' who' dn' L' V') (k : Chg l w w') (hl : ∀ x ∈ l, x = t ∨ x = b ∨ x = R ∨ x = I ∨ x = p ∨ x = h) : TS w0 w' t b R I p h n q on' who' dn' L' V' := by
  obtain ⟨s1, s2, s3⟩ := s
  exact ⟨a, k.onto s2 s2.size (fun x hx => by rcases hl x hx with e | e | e | e | e | e <;> omega), s3⟩
theorem TS.fresh (s : TS w0 w t b R I p h n q on who dn L V) (k : Below w.heap.size w w') : TS w0 w' t b R I p h n q on who dn L V :=
  ⟨s.1.fresh k, s.2.1.trans (k.mono s.2.1.size), s.2.2⟩
theorem TS.drewN (s : TS w0 w t b R I p h n q on who dn L V) (k : Nat) : TS w0 (w.drewN k) t b R I p h n q on who dn L V := s.fresh (below_drewN (Below.refl _ _) k)
theorem TS.drew (s : TS w0 w t b R I p h n q on who dn L V) : TS w0 w.drew t b R I p h n q on who dn L V := s.fresh (Below.refl _ _).drew
end
set_option maxHeartbeats 2000000 in
theorem lives_any (w : World) : Calls Try.prog 20 #[] w fun e w' => e = .returned (.bool true) ∧ Below w.heap.size w w' := by
  go_enter Try.func20, Try.ntmps20
  go_wp2_with (first
    | (go_at_call 7; refine (t_new 3 3 2 2 _ (by decide) (by decide)).mono ?_; rintro e w1 ⟨t, b, R, I, p, h, rfl, k⟩; have H1 : Hid (TS w w1 t b R I p h 3 2 false 0 0 [] [0, 0, 0]) := Lib.hid k; clear k)
    | (go_at_call 10; refine (t_wake_at t b R I p h 3 2 false 0 0 [] [0, 0, 0] 0 0 rfl _ (by decide) (by decide) H1.out.1).mono ?_; rintro e w2 ⟨rfl, k1, k2⟩; have H2 : Hid (TS w w2 t b R I p h 3 2 false 0 0 [0] [0, 0, 0]) := Lib.hid (H1.out.to (show TAt w2 t b R I p h 3 2 false 0 0 [0] [0, 0, 0] from k1) k2 (by simp)); clear k1 k2 H1)
    | (go_at_call 10; refine (t_wake_at t b R I p h 3 2 false 0 0 [0] [0, 0, 0] 1 1 rfl _ (by decide) (by decide) H2.out.1).mono ?_; rintro e w3 ⟨rfl, k1, k2⟩; have H3 : Hid (TS w w3 t b R I p h 3 2 false 0 0 [0, 1] [0, 0, 0]) := Lib.hid (H2.out.to (show TAt w3 t b R I p h 3 2 false 0 0 [0, 1] [0, 0, 0] from k1) k2 (by simp)); clear k1 k2 H2)
    | (go_at_call 12; refine (t_begin_some t b R I p h 3 2 0 0 [0, 0, 0] _ 0 [1] (by decide) H3.out.1).mono ?_; rintro e w4 ⟨rfl, k1, k2⟩; have H4 : Hid (TS w w4 t b R I p h 3 2 true 0 1 [1] [2, 0, 0]) := Lib.hid (H3.out.to (show TAt w4 t b R I p h 3 2 true 0 1 [1] [2, 0, 0] from k1) k2 (by simp)); clear k1 k2 H3)
    | (go_at_call 14; refine (t_pay_on t b R I p h 3 2 0 1 [1] [2, 0, 0] _ 3 H4.out.1).mono ?_; rintro e w5 ⟨rfl, k1, k2⟩; have H5 : Hid (TS w w5 t b R I p h 3 2 true 0 1 [1] [2, 0, 0]) := Lib.hid (H4.out.to (show TAt w5 t b R I p h 3 2 true 0 1 [1] [2, 0, 0] from k1) k2 (by simp)); clear k1 k2 H4; rw [show pCan [2, 0, 0] ((0 : Nat) : Int) 3 = false by decide])
    | (go_at_call 16; refine (t_end_again t b R I p h 3 2 0 1 [1] [2, 0, 0] _ H5.out.1).mono ?_; rintro e w6 ⟨rfl, k1, k2⟩; have H6 : Hid (TS w w6 t b R I p h 3 2 false 0 1 [1, 0] [2, 0, 0]) := Lib.hid (H5.out.to (show TAt w6 t b R I p h 3 2 false 0 1 [1, 0] [2, 0, 0] from k1) k2 (by simp)); clear k1 k2 H5)
    | (go_at_call 12; refine (t_begin_some t b R I p h 3 2 0 1 [2, 0, 0] _ 1 [0] (by decide) H6.out.1).mono ?_; rintro e w7 ⟨rfl, k1, k2⟩; have H7 : Hid (TS w w7 t b R I p h 3 2 true 1 2 [0] [2, 2, 0]) := Lib.hid (H6.out.to (show TAt w7 t b R I p h 3 2 true 1 2 [0] [2, 2, 0] from k1) k2 (by simp)); clear k1 k2 H6)
    | (go_at_call 16; refine (t_end_clear t b R I p h 3 2 1 2 [0] [2, 2, 0] _ H7.out.1).mono ?_; rintro e w8 ⟨rfl, k1, k2⟩; have H8 : Hid (TS w w8 t b R I p h 3 2 false 1 2 [0] [2, 0, 0]) := Lib.hid (H7.out.to (show TAt w8 t b R I p h 3 2 false 1 2 [0] [2, 0, 0] from k1) k2 (by simp)); clear k1 k2 H7)
    | (go_at_call 12; refine (t_begin_some t b R I p h 3 2 1 2 [2, 0, 0] _ 0 [] (by decide) H8.out.1).mono ?_; rintro e w9 ⟨rfl, k1, k2⟩; have H9 : Hid (TS w w9 t b R I p h 3 2 true 0 3 [] [4, 0, 0]) := Lib.hid (H8.out.to (show TAt w9 t b R I p h 3 2 true 0 3 [] [4, 0, 0] from k1) k2 (by simp)); clear k1 k2 H8)
    | (go_at_call 14; refine (t_pay_on t b R I p h 3 2 0 3 [] [4, 0, 0] _ 3 H9.out.1).mono ?_; rintro e w10 ⟨rfl, k1, k2⟩; have H10 : Hid (TS w w10 t b R I p h 3 2 true 0 3 [] [1, 0, 0]) := Lib.hid (H9.out.to (show TAt w10 t b R I p h 3 2 true 0 3 [] [1, 0, 0] from k1) k2 (by simp)); clear k1 k2 H9; rw [show pCan [4, 0, 0] ((0 : Nat) : Int) 3 = true by decide])
    | (go_at_call 26; refine (t_done t b R I p h 3 2 true 0 3 [] [1, 0, 0] _ H10.out.1).mono ?_; rintro e w11 ⟨rfl, rfl⟩))
  go_ret
  exact ⟨rfl, H10.out.2.1⟩
section
variable (t b R I p h n : Nat) (q : Int) (on : Bool) (who dn : Nat) (L : List Nat) (V : List Int) (w : World)
/-- A number that wakes, whichever it is. -/
theorem t_wake_any (id : Int) (a : TAt w t b R I p h n q on who dn L V) :
    Calls Try.prog 10 #[.pointer (some ⟨t, 0, none⟩), .int .i64 id] w fun e w' => ∃ (m : Bool) (L' : List Nat), e = .returned (.bool m) ∧ TAt w' t b R I p h n q on who dn L' V ∧ Chg [b, R, I] w w' ∧ (L' = L ∨ ∃ x, L' = L ++ [x]) := by
  by_cases hn : id < 0 ∨ (n : Int) ≤ id ∨ tW on who L id = true
  · refine (t_wake_no t b R I p h n q on who dn L V w id a hn).mono ?_
    rintro e w' ⟨rfl, k, rfl⟩
    exact ⟨_, _, rfl, a.drewN k, (Chg.refl _ _).drewN k, Or.inl rfl⟩
  · obtain ⟨x, rfl⟩ : ∃ x : Nat, id = (x : Int) := ⟨id.toNat, by omega⟩
    have h2 : tW on who L (x : Int) = false := by
      cases hh : tW on who L (x : Int) with
      | true => exact absurd (Or.inr (Or.inr hh)) hn
      | false => rfl
    refine (t_wake_yes t b R I p h n q on who dn L V w x (by omega) a h2).mono ?_
    rintro e w' ⟨rfl, k1, k2⟩
    exact ⟨_, _, rfl, k1, k2, Or.inr ⟨x, rfl⟩⟩
/-- The turn ends, again or not. -/
theorem t_end_on (again : Bool) (a : TAt w t b R I p h n q true who dn L V) :
    Calls Try.prog 16 #[.pointer (some ⟨t, 0, none⟩), .bool again] w fun e w' => e = .returned (.bool true) ∧ TAt w' t b R I p h n q false who dn (if again = true then L ++ [who] else L) (if again = true then V else pSet V (who : Int) 0) ∧ Chg [t, b, R, I, h] w w' := by
  cases again with
  | true =>
    refine (t_end_again t b R I p h n q who dn L V w a).mono ?_
    rintro e w' ⟨rfl, k1, k2⟩
    exact ⟨rfl, k1, k2.mono (fun x hx => by simp at hx ⊢; omega)⟩
  | false =>
    refine (t_end_clear t b R I p h n q who dn L V w a).mono ?_
    rintro e w' ⟨rfl, k1, k2⟩
    exact ⟨rfl, k1, k2.mono (fun x hx => by simp at hx ⊢; omega)⟩
/-- A payment touches no other one. -/
theorem pPay_other {V : List Int} {id k price : Int} (hk : id ≠ k) : pHas (pPay V id price) k = pHas V k := by
  unfold pPay
  split
  · exact pHas_set_other hk
  · rfl
theorem t_pay_ex (price : Int) (a : TAt w t b R I p h n q true who dn L V) :
    Calls Try.prog 14 #[.pointer (some ⟨t, 0, none⟩), .int .i64 price] w fun e w' => ∃ (m : Bool) (V' : List Int), e = .returned (.bool m) ∧ TAt w' t b R I p h n q true who dn L V' ∧ Chg [h] w w' ∧ ∀ k : Int, (who : Int) ≠ k → pHas V' k = pHas V k := by
  refine (t_pay_on t b R I p h n q who dn L V w price a).mono ?_
  rintro e w' ⟨rfl, k1, k2⟩
  exact ⟨_, _, rfl, k1, k2, fun k hk => pPay_other hk⟩
end
end Go.Proofs.Yticdpcbmnahenaa
