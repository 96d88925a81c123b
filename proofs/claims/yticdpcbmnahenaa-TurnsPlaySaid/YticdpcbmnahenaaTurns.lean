/- Turns whole: what each method of package turns tells, and what it leaves. -/
import Derived.Test.YticdpcbmnahenaaFifo3
import Derived.Test.YticdpcbmnahenaaPur
namespace Go.Proofs.Yticdpcbmnahenaa
open Go.ChangeShapes Go.WideShapes Go.ChangeAt Go.RowKit
set_option linter.unusedSimpArgs false
set_option linter.unusedVariables false

/-- Turns in memory: the row, the purses, whether a turn is on, whose it was last, how many began. -/
def TAt (w : World) (t b R I p h n : Nat) (q : Int) (on : Bool) (who dn : Nat) (L : List Nat) (V : List Int) : Prop :=
  (t ≠ b ∧ t ≠ R ∧ t ≠ I ∧ t ≠ p ∧ t ≠ h ∧ b ≠ p ∧ b ≠ h ∧ R ≠ p ∧ R ≠ h ∧ I ≠ p ∧ I ≠ h) ∧ (on = true → who < n ∧ ¬ who ∈ L) ∧
  Blk w t [.pointer (some ⟨b, 0, none⟩), .pointer (some ⟨p, 0, none⟩), .bool on, .int .i64 who, .int .i64 dn] 60 ∧ FAt w b R I n L ∧ PU w p h n q V
section
variable {w w' : World} {t b R I p h n : Nat} {q : Int} {on : Bool} {who dn : Nat} {L : List Nat} {V : List Int}
theorem TAt.lts (a : TAt w t b R I p h n q on who dn L V) : (t < w.heap.size ∧ b < w.heap.size ∧ R < w.heap.size ∧ I < w.heap.size) ∧ p < w.heap.size ∧ h < w.heap.size :=
  ⟨⟨a.2.2.1.lt, a.2.2.2.1.lts⟩, a.2.2.2.2.lts⟩
theorem TAt.chg (a : TAt w t b R I p h n q on who dn L V) {l : List Nat} (k : Chg l w w') (h1 : t ∉ l) (h2 : b ∉ l) (h3 : R ∉ l) (h4 : I ∉ l) (h5 : p ∉ l) (h6 : h ∉ l) : TAt w' t b R I p h n q on who dn L V := by
  obtain ⟨a1, a2, a3, a4, a5⟩ := a
  exact ⟨a1, a2, a3.chg k h1, a4.chg k h2 h3 h4, a5.chg k h5 h6⟩
theorem TAt.fresh (a : TAt w t b R I p h n q on who dn L V) (k : Below w.heap.size w w') : TAt w' t b R I p h n q on who dn L V := a.chg (Chg.of_fresh k (l := [])) (by simp) (by simp) (by simp) (by simp) (by simp) (by simp)
theorem TAt.drewN (a : TAt w t b R I p h n q on who dn L V) (k : Nat) : TAt (w.drewN k) t b R I p h n q on who dn L V := a
theorem TAt.drew (a : TAt w t b R I p h n q on who dn L V) : TAt w.drew t b R I p h n q on who dn L V := a
theorem TAt.row {L' : List Nat} (a : TAt w t b R I p h n q on who dn L V) (f : FAt w' b R I n L') (k : Chg [b, R, I] w w') (hw : on = true → ¬ who ∈ L') : TAt w' t b R I p h n q on who dn L' V := by
  obtain ⟨a1, a2, a3, a4, a5⟩ := a
  have h1 := a4.1
  exact ⟨a1, fun e => ⟨(a2 e).1, hw e⟩, a3.chg k (by simp; omega), f, a5.chg k (by simp; omega) (by simp; omega)⟩
theorem TAt.pur {V' : List Int} (a : TAt w t b R I p h n q on who dn L V) (f : PU w' p h n q V') (k : Chg [h] w w') : TAt w' t b R I p h n q on who dn L V' := by
  obtain ⟨a1, a2, a3, a4, a5⟩ := a
  exact ⟨a1, a2, a3.chg k (by simp; omega), a4.chg k (by simp; omega) (by simp; omega) (by simp; omega), f⟩
theorem TAt.c0 (a : TAt w t b R I p h n q on who dn L V) : w.cell? ⟨t, 0, none⟩ = some (.pointer (some ⟨b, 0, none⟩)) := a.2.2.1.cell (i := 0) rfl
theorem TAt.c1 (a : TAt w t b R I p h n q on who dn L V) : w.cell? ⟨t, 1, none⟩ = some (.pointer (some ⟨p, 0, none⟩)) := a.2.2.1.cell (i := 1) rfl
theorem TAt.c2 (a : TAt w t b R I p h n q on who dn L V) : w.cell? ⟨t, 2, none⟩ = some (.bool on) := a.2.2.1.cell (i := 2) rfl
theorem TAt.c3 (a : TAt w t b R I p h n q on who dn L V) : w.cell? ⟨t, 3, none⟩ = some (.int .i64 who) := a.2.2.1.cell (i := 3) rfl
theorem TAt.c4 (a : TAt w t b R I p h n q on who dn L V) : w.cell? ⟨t, 4, none⟩ = some (.int .i64 dn) := a.2.2.1.cell (i := 4) rfl
theorem TAt.off (a : TAt w t b R I p h n q on who dn L V) : TAt (w.setCell ⟨t, 2, none⟩ (.bool false)) t b R I p h n q false who dn L V := by
  obtain ⟨a1, a2, a3, a4, a5⟩ := a
  exact ⟨a1, fun e => (by cases e), a3.set 2 (.bool false), a4.chg ((Chg.refl [t] w).set (Or.inl (by simp)) _ _) (by simp; omega) (by simp; omega) (by simp; omega), a5.chg ((Chg.refl [t] w).set (Or.inl (by simp)) _ _) (by simp; omega) (by simp; omega)⟩
theorem TAt.start (a : TAt w t b R I p h n q on who dn L V) (x : Nat) (hx : x < n ∧ ¬ x ∈ L) (dn' : Int) (hd : dn' = ((dn + 1 : Nat) : Int)) :
    TAt (((w.setCell ⟨t, 2, none⟩ (.bool true)).setCell ⟨t, 3, none⟩ (.int .i64 x)).setCell ⟨t, 4, none⟩ (.int .i64 dn')) t b R I p h n q true x (dn + 1) L V := by
  subst hd
  obtain ⟨a1, a2, a3, a4, a5⟩ := a
  have k : Chg [t] w (((w.setCell ⟨t, 2, none⟩ (.bool true)).setCell ⟨t, 3, none⟩ (.int .i64 x)).setCell ⟨t, 4, none⟩ (.int .i64 ((dn + 1 : Nat) : Int))) := (((Chg.refl [t] w).set (Or.inl (by simp)) _ _).set (Or.inl (by simp)) _ _).set (Or.inl (by simp)) _ _
  exact ⟨a1, fun _ => hx, ((a3.set 2 (.bool true)).set 3 (.int .i64 x)).set 4 (.int .i64 ((dn + 1 : Nat) : Int)), a4.chg k (by simp; omega) (by simp; omega) (by simp; omega), a5.chg k (by simp; omega) (by simp; omega)⟩
end
/-- Whether a number waits, or it is its turn. -/
def tW (on : Bool) (who : Nat) (L : List Nat) (id : Int) : Bool := (on && decide ((who : Int) = id)) || isIn L id
section
variable (t b R I p h n : Nat) (q : Int) (on : Bool) (who dn : Nat) (L : List Nat) (V : List Int) (w : World)
theorem t_whose_off (a : TAt w t b R I p h n q false who dn L V) :
    Calls Try.prog 22 #[.pointer (some ⟨t, 0, none⟩)] w fun e w' => e = .returned (.tuple #[.int .i64 0, .bool false]) ∧ w = w' := by
  have c2 := a.c2
  clear a
  go_enter Try.func22, Try.ntmps22
  go_wp2
  go_ret2
  exact ⟨rfl, rfl⟩
theorem t_whose_on (a : TAt w t b R I p h n q true who dn L V) :
    Calls Try.prog 22 #[.pointer (some ⟨t, 0, none⟩)] w fun e w' => e = .returned (.tuple #[.int .i64 who, .bool true]) ∧ w = w' := by
  have c2 := a.c2
  have c3 := a.c3
  clear a
  go_enter Try.func22, Try.ntmps22
  go_wp2
  go_ret2
  exact ⟨rfl, rfl⟩
theorem t_has (id : Int) (a : TAt w t b R I p h n q on who dn L V) :
    Calls Try.prog 23 #[.pointer (some ⟨t, 0, none⟩), .int .i64 id] w fun e w' => e = .returned (.int .i64 (pHas V id)) ∧ w = w' := by
  have c1 := a.c1
  have HP := Lib.hid a.2.2.2.2
  clear a
  go_enter Try.func23, Try.ntmps23
  go_wp2_with (go_at_call 44; refine (pu_has p h n q V id _ HP.out).mono ?_; rintro e w' ⟨rfl, rfl⟩)
  go_ret
  exact ⟨rfl, rfl⟩
theorem t_done (a : TAt w t b R I p h n q on who dn L V) :
    Calls Try.prog 26 #[.pointer (some ⟨t, 0, none⟩)] w fun e w' => e = .returned (.int .i64 dn) ∧ w = w' := by
  have c4 := a.c4
  clear a
  go_enter Try.func26, Try.ntmps26
  go_wp2
  go_ret
  exact ⟨rfl, rfl⟩
theorem t_list (a : TAt w t b R I p h n q on who dn L V) :
    Calls Try.prog 25 #[.pointer (some ⟨t, 0, none⟩)] w fun e w' => ∃ v', e = .returned v' ∧ w'.ownsRow w.heap.size 3 1 v' L.length (L.map iv) ∧ v' ≠ .slice none 0 0 ∧ Below w.heap.size w w' := by
  have c0 := a.c0
  have HF := Lib.hid a.2.2.2.1
  clear a
  go_enter Try.func25, Try.ntmps25
  go_wp2_with (go_at_call 46; refine (list_own b R I n L _ HF.out).mono ?_; rintro e w' ⟨v', rfl, k⟩; have HK := Lib.hid k; clear k)
  go_ret
  exact ⟨_, rfl, HK.out⟩
set_option maxHeartbeats 600000 in
theorem t_waits (id : Int) (a : TAt w t b R I p h n q on who dn L V) :
    Calls Try.prog 24 #[.pointer (some ⟨t, 0, none⟩), .int .i64 id] w fun e w' => e = .returned (.bool (tW on who L id)) ∧ ∃ q, w' = w.drewN q := by
  have HA := Lib.hid a
  have c0 := a.c0
  clear a
  cases on with
  | false =>
    obtain ⟨bo, hbo⟩ : ∃ bo, isIn L id = bo := ⟨_, rfl⟩
    have HB := Lib.hid hbo
    have HV : Hid (tW false who L id = bo) := Lib.hid (by unfold tW; rw [hbo]; simp)
    clear hbo
    go_enter Try.func24, Try.ntmps24
    go_wp2_with (first
      | (go_at_call 22; refine (t_whose_off t b R I p h n q who dn L V _ HA.out).mono ?_; rintro e w' ⟨rfl, rfl⟩)
      | (go_at_call 45; refine (has_any b R I n L id _ HA.out.2.2.2.1).mono ?_; rintro e w' ⟨rfl, k, rfl⟩; rw [HB.out]))
    go_ret
    exact ⟨Pur.ret_b HV.out.symm, _, rfl⟩
  | true =>
    by_cases he : (who : Int) = id
    · have HV : Hid (tW true who L id = true) := Lib.hid (by unfold tW; simp [he])
      subst he
      go_enter Try.func24, Try.ntmps24
      go_wp2_with (go_at_call 22; refine (t_whose_on t b R I p h n q who dn L V _ HA.out).mono ?_; rintro e w' ⟨rfl, rfl⟩)
      go_ret
      exact ⟨Pur.ret_b HV.out.symm, 0, rfl⟩
    · obtain ⟨bo, hbo⟩ : ∃ bo, isIn L id = bo := ⟨_, rfl⟩
      have HB := Lib.hid hbo
      have HV : Hid (tW true who L id = bo) := Lib.hid (by unfold tW; rw [hbo]; simp [he])
      have he2 : ((who : Int) == id) = false := by simpa using he
      clear hbo
      go_enter Try.func24, Try.ntmps24
      go_wp2_with (first
        | (go_at_call 22; refine (t_whose_on t b R I p h n q who dn L V _ HA.out).mono ?_; rintro e w' ⟨rfl, rfl⟩)
        | (go_at_call 45; refine (has_any b R I n L id _ HA.out.2.2.2.1).mono ?_; rintro e w' ⟨rfl, k, rfl⟩; rw [HB.out]))
      go_ret
      exact ⟨Pur.ret_b HV.out.symm, _, rfl⟩
set_option maxHeartbeats 600000 in
theorem t_wake_no (id : Int) (a : TAt w t b R I p h n q on who dn L V) (hn : id < 0 ∨ (n : Int) ≤ id ∨ tW on who L id = true) :
    Calls Try.prog 10 #[.pointer (some ⟨t, 0, none⟩), .int .i64 id] w fun e w' => e = .returned (.bool false) ∧ ∃ q, w' = w.drewN q := by
  have HA := Lib.hid a
  have c0 := a.c0
  clear a
  obtain ⟨bo, hbo⟩ : ∃ bo, tW on who L id = bo := ⟨_, rfl⟩
  have HB := Lib.hid hbo
  cases bo with
  | true =>
    clear hbo hn
    go_enter Try.func10, Try.ntmps10
    go_wp2_with (go_at_call 24; refine (t_waits t b R I p h n q on who dn L V _ id HA.out).mono ?_; rintro e w' ⟨rfl, k, rfl⟩; rw [HB.out])
    go_ret
    exact ⟨rfl, _, rfl⟩
  | false =>
    have HN : Hid (id < 0 ∨ (n : Int) ≤ id ∨ isIn L id = true) := Lib.hid (by
      rcases hn with h | h | h
      · exact Or.inl h
      · exact Or.inr (Or.inl h)
      · rw [hbo] at h; cases h)
    clear hbo hn
    go_enter Try.func10, Try.ntmps10
    go_wp2_with (first
      | (go_at_call 24; refine (t_waits t b R I p h n q on who dn L V _ id HA.out).mono ?_; rintro e w' ⟨rfl, k, rfl⟩; rw [HB.out]; have HA1 := Lib.hid (HA.out.drewN k))
      | (go_at_call 31; refine (push_no b R I n L id _ HN.out HA1.out.2.2.2.1).mono ?_; rintro e w' ⟨rfl, rfl⟩))
    go_ret
    exact ⟨rfl, _, rfl⟩
theorem tW_false {on : Bool} {who : Nat} {L : List Nat} {x : Nat} (h : tW on who L (x : Int) = false) : ¬ x ∈ L ∧ (on = true → who ≠ x) := by
  unfold tW at h
  rw [isIn_nat] at h
  simp at h
  exact ⟨h.2, fun e he => h.1 e (by omega)⟩
set_option maxHeartbeats 600000 in
theorem t_wake_yes (x : Nat) (hx : x < n) (a : TAt w t b R I p h n q on who dn L V) (hn : tW on who L (x : Int) = false) :
    Calls Try.prog 10 #[.pointer (some ⟨t, 0, none⟩), .int .i64 x] w fun e w' => e = .returned (.bool true) ∧ TAt w' t b R I p h n q on who dn (L ++ [x]) V ∧ Chg [b, R, I] w w' := by
  have HA := Lib.hid a
  have c0 := a.c0
  have HW := Lib.hid a.2.1
  clear a
  have hxL := tW_false hn
  have HN := Lib.hid hn
  have hxl := hxL.1
  have HX := Lib.hid hxL.2
  clear hn hxL
  go_enter Try.func10, Try.ntmps10
  go_wp2_with (first
    | (go_at_call 24; refine (t_waits t b R I p h n q on who dn L V _ (x : Int) HA.out).mono ?_; rintro e w' ⟨rfl, k, rfl⟩; rw [HN.out]; have HA1 := Lib.hid (HA.out.drewN k))
    | (go_at_call 31; refine (push_yes b R I n x L _ hx hxl HA1.out.2.2.2.1).mono ?_; rintro e w' ⟨rfl, k1, k2⟩; have HK := Lib.hid (And.intro k1 k2); clear k1 k2))
  go_ret
  exact ⟨rfl, HA1.out.row HK.out.1 HK.out.2 (fun e hm => by
    rcases List.mem_append.1 hm with h | h
    · exact (HW.out e).2 h
    · exact HX.out e (by simpa using h)), ((Chg.refl _ w).drewN _).trans HK.out.2 (fun _ h => Or.inl h)⟩
theorem t_begin_on (a : TAt w t b R I p h n q true who dn L V) :
    Calls Try.prog 12 #[.pointer (some ⟨t, 0, none⟩)] w fun e w' => e = .returned (.tuple #[.int .i64 0, .bool false]) ∧ w = w' := by
  have c2 := a.c2
  clear a
  go_enter Try.func12, Try.ntmps12
  go_wp2
  go_ret2
  exact ⟨rfl, rfl⟩
theorem t_begin_none (a : TAt w t b R I p h n q false who dn [] V) :
    Calls Try.prog 12 #[.pointer (some ⟨t, 0, none⟩)] w fun e w' => e = .returned (.tuple #[.int .i64 0, .bool false]) ∧ w = w' := by
  have HF := Lib.hid a.2.2.2.1
  have c0 := a.c0
  have c2 := a.c2
  clear a
  go_enter Try.func12, Try.ntmps12
  go_wp2_with (go_at_call 33; refine (pop_none b R I n _ HF.out).mono ?_; rintro e w' ⟨rfl, rfl⟩)
  go_ret2
  exact ⟨rfl, rfl⟩
set_option maxHeartbeats 1000000 in
theorem t_begin_some (x : Nat) (Ls : List Nat) (hd : dn < 1000000) (a : TAt w t b R I p h n q false who dn (x :: Ls) V) :
    Calls Try.prog 12 #[.pointer (some ⟨t, 0, none⟩)] w fun e w' => e = .returned (.tuple #[.int .i64 x, .bool true]) ∧ TAt w' t b R I p h n q true x (dn + 1) Ls (pSet V (x : Int) (min (pHas V (x : Int) + q) 2000000000)) ∧ Chg [t, b, R, I, h] w w' := by
  have HA := Lib.hid a
  have hx : x < n ∧ ¬ x ∈ Ls := ⟨a.2.2.2.1.2.2.1 x (by simp), (List.nodup_cons.1 a.2.2.2.1.2.1).1⟩
  have HX := Lib.hid hx
  have c0 := a.c0
  have c2 := a.c2
  clear a hx
  have s1 : IntKind.i64.wrap ((dn : Int) + 1) = (dn : Int) + 1 := IntWalk.i64_in _ (by omega)
  go_enter Try.func12, Try.ntmps12
  go_wp2_with fail
  go_wp2_with (go_at_call 33; refine (pop_some b R I n x Ls _ HA.out.2.2.2.1).mono ?_; rintro e w1 ⟨rfl, k1, k2⟩; have HA1 : Hid (TAt w1 t b R I p h n q false who dn Ls V ∧ Chg [t, b, R, I, h] w w1) := Lib.hid ⟨HA.out.row k1 k2 (fun e => by cases e), k2.mono (by simp)⟩; clear k1 k2; have d0 := HA1.out.1.c0; have d1 := HA1.out.1.c1; have d2 := HA1.out.1.c2; have d3 := HA1.out.1.c3; have d4 := HA1.out.1.c4; have f2 := HA1.out.1.2.2.1.free 2; have f3 := HA1.out.1.2.2.1.free 3; have f4 := HA1.out.1.2.2.1.free 4)
  have HA2 : Hid (TAt (((w1.setCell ⟨t, 2, none⟩ (.bool true)).setCell ⟨t, 3, none⟩ (.int .i64 x)).setCell ⟨t, 4, none⟩ (.int .i64 ((dn : Int) + 1))) t b R I p h n q true x (dn + 1) Ls V ∧ Chg [t, b, R, I, h] w (((w1.setCell ⟨t, 2, none⟩ (.bool true)).setCell ⟨t, 3, none⟩ (.int .i64 x)).setCell ⟨t, 4, none⟩ (.int .i64 ((dn : Int) + 1)))) := Lib.hid ⟨HA1.out.1.start x HX.out _ (by omega), ((HA1.out.2.set (Or.inl (by simp)) _ _).set (Or.inl (by simp)) _ _).set (Or.inl (by simp)) _ _⟩
  go_wp2_with (go_at_call 34; refine (pu_give p h n q V (x : Int) _ HA2.out.1.2.2.2.2).mono ?_; rintro e w3 ⟨⟨m, rfl⟩, k1, k2⟩; have HA3 := Lib.hid (And.intro (HA2.out.1.pur k1 k2) (HA2.out.2.trans k2 (by simp))); clear k1 k2)
  go_ret2
  exact ⟨rfl, HA3.out⟩
theorem t_pay_off (price : Int) (a : TAt w t b R I p h n q false who dn L V) :
    Calls Try.prog 14 #[.pointer (some ⟨t, 0, none⟩), .int .i64 price] w fun e w' => e = .returned (.bool false) ∧ w = w' := by
  have HA := Lib.hid a
  clear a
  go_enter Try.func14, Try.ntmps14
  go_wp2_with (go_at_call 22; refine (t_whose_off t b R I p h n q who dn L V _ HA.out).mono ?_; rintro e w' ⟨rfl, rfl⟩)
  go_ret
  exact ⟨rfl, rfl⟩
set_option maxHeartbeats 600000 in
theorem t_pay_on (price : Int) (a : TAt w t b R I p h n q true who dn L V) :
    Calls Try.prog 14 #[.pointer (some ⟨t, 0, none⟩), .int .i64 price] w fun e w' => e = .returned (.bool (pCan V (who : Int) price)) ∧ TAt w' t b R I p h n q true who dn L (pPay V (who : Int) price) ∧ Chg [h] w w' := by
  have HA := Lib.hid a
  have c1 := a.c1
  clear a
  obtain ⟨bo, hbo⟩ : ∃ bo, pCan V (who : Int) price = bo := ⟨_, rfl⟩
  have HB := Lib.hid hbo
  rw [hbo]
  clear hbo
  go_enter Try.func14, Try.ntmps14
  go_wp2_with (first
    | (go_at_call 22; refine (t_whose_on t b R I p h n q who dn L V _ HA.out).mono ?_; rintro e w' ⟨rfl, rfl⟩)
    | (go_at_call 36; refine (pu_pay p h n q V (who : Int) price _ HA.out.2.2.2.2).mono ?_; rintro e w3 ⟨rfl, k1, k2⟩; rw [HB.out]; have HA3 := Lib.hid (And.intro (HA.out.pur k1 k2) k2); clear k1 k2))
  go_ret
  exact ⟨rfl, HA3.out⟩
theorem t_end_off (again : Bool) (a : TAt w t b R I p h n q false who dn L V) :
    Calls Try.prog 16 #[.pointer (some ⟨t, 0, none⟩), .bool again] w fun e w' => e = .returned (.bool false) ∧ w = w' := by
  have HA := Lib.hid a
  clear a
  go_enter Try.func16, Try.ntmps16
  go_wp2_with (go_at_call 22; refine (t_whose_off t b R I p h n q who dn L V _ HA.out).mono ?_; rintro e w' ⟨rfl, rfl⟩)
  go_ret
  exact ⟨rfl, rfl⟩
set_option maxHeartbeats 600000 in
theorem t_end_again (a : TAt w t b R I p h n q true who dn L V) :
    Calls Try.prog 16 #[.pointer (some ⟨t, 0, none⟩), .bool true] w fun e w' => e = .returned (.bool true) ∧ TAt w' t b R I p h n q false who dn (L ++ [who]) V ∧ Chg [t, b, R, I] w w' := by
  have HA := Lib.hid a
  have hw := a.2.1 rfl
  have hw1 := hw.1
  have hw2 := hw.2
  have c0 := a.c0
  have c2 := a.c2
  have f2 := a.2.2.1.free 2
  have HA2 : Hid (TAt (w.setCell ⟨t, 2, none⟩ (.bool false)) t b R I p h n q false who dn L V ∧ Chg [t, b, R, I] w (w.setCell ⟨t, 2, none⟩ (.bool false))) := Lib.hid ⟨a.off, (Chg.refl _ _).set (Or.inl (by simp)) _ _⟩
  clear a hw
  go_enter Try.func16, Try.ntmps16
  go_wp2_with (first
    | (go_at_call 22; refine (t_whose_on t b R I p h n q who dn L V _ HA.out).mono ?_; rintro e w' ⟨rfl, rfl⟩)
    | (go_at_call 31; refine (push_yes b R I n who L _ hw1 hw2 HA2.out.1.2.2.2.1).mono ?_; rintro e w3 ⟨rfl, k1, k2⟩; have HA3 := Lib.hid (And.intro (HA2.out.1.row k1 k2 (fun e => by cases e)) (HA2.out.2.trans k2 (fun x hx => Or.inl (by simp at hx ⊢; omega)))); clear k1 k2))
  go_ret
  exact ⟨rfl, HA3.out⟩
set_option maxHeartbeats 600000 in
theorem t_end_clear (a : TAt w t b R I p h n q true who dn L V) :
    Calls Try.prog 16 #[.pointer (some ⟨t, 0, none⟩), .bool false] w fun e w' => e = .returned (.bool true) ∧ TAt w' t b R I p h n q false who dn L (pSet V (who : Int) 0) ∧ Chg [t, h] w w' := by
  have HA := Lib.hid a
  have c1 := a.c1
  have c2 := a.c2
  have f2 := a.2.2.1.free 2
  have HA2 : Hid (TAt (w.setCell ⟨t, 2, none⟩ (.bool false)) t b R I p h n q false who dn L V ∧ Chg [t, h] w (w.setCell ⟨t, 2, none⟩ (.bool false))) := Lib.hid ⟨a.off, (Chg.refl _ _).set (Or.inl (by simp)) _ _⟩
  clear a
  go_enter Try.func16, Try.ntmps16
  go_wp2_with (first
    | (go_at_call 22; refine (t_whose_on t b R I p h n q who dn L V _ HA.out).mono ?_; rintro e w' ⟨rfl, rfl⟩)
    | (go_at_call 38; refine (pu_clear p h n q V (who : Int) _ HA2.out.1.2.2.2.2).mono ?_; rintro e w3 ⟨rfl, k1, k2⟩; have HA3 := Lib.hid (And.intro (HA2.out.1.pur k1 k2) (HA2.out.2.trans k2 (by simp))); clear k1 k2))
  go_ret
  exact ⟨rfl, HA3.out⟩
set_option maxHeartbeats 600000 in
theorem t_leave_no (id : Int) (a : TAt w t b R I p h n q on who dn L V) (hn : tW on who L id = false) :
    Calls Try.prog 18 #[.pointer (some ⟨t, 0, none⟩), .int .i64 id] w fun e w' => e = .returned (.bool false) ∧ ∃ q, w' = w.drewN q := by
  have HA := Lib.hid a
  have HN := Lib.hid hn
  clear a hn
  go_enter Try.func18, Try.ntmps18
  go_wp2_with (go_at_call 24; refine (t_waits t b R I p h n q on who dn L V _ id HA.out).mono ?_; rintro e w' ⟨rfl, k, rfl⟩; rw [HN.out])
  go_ret
  exact ⟨rfl, _, rfl⟩
set_option maxHeartbeats 600000 in
theorem t_leave_row (x : Nat) (hx : x ∈ L) (a : TAt w t b R I p h n q on who dn L V) :
    Calls Try.prog 18 #[.pointer (some ⟨t, 0, none⟩), .int .i64 x] w fun e w' => e = .returned (.bool true) ∧ TAt w' t b R I p h n q on who dn (L.erase x) (pSet V (x : Int) 0) ∧ Chg [b, R, I, h] w w' := by
  have HA := Lib.hid a
  have HN : Hid (tW on who L (x : Int) = true) := Lib.hid (by unfold tW; rw [isIn_nat]; simp [hx])
  have HW := Lib.hid a.2.1
  have c0 := a.c0
  clear a
  go_enter Try.func18, Try.ntmps18
  go_wp2_with (first
    | (go_at_call 24; refine (t_waits t b R I p h n q on who dn L V _ (x : Int) HA.out).mono ?_; rintro e w' ⟨rfl, k, rfl⟩; rw [HN.out]; have HA1 := Lib.hid (HA.out.drewN k))
    | (go_at_call 41; refine (cut_yes b R I n x L _ hx HA1.out.2.2.2.1).mono ?_; rintro e w2 ⟨rfl, k1, k2⟩; have HA2 : Hid (TAt w2 t b R I p h n q on who dn (L.erase x) V ∧ Chg [b, R, I, h] w w2) := Lib.hid ⟨HA1.out.row k1 k2 (fun e hm => (HW.out e).2 (List.mem_of_mem_erase hm)), (((Chg.refl _ w).drewN k).trans k2 (fun x hx => Or.inl (by simp at hx ⊢; omega)))⟩; have d1 := HA2.out.1.c1; clear k1 k2)
    | (go_at_call 38; refine (pu_clear p h n q V (x : Int) _ HA2.out.1.2.2.2.2).mono ?_; rintro e w3 ⟨rfl, k1, k2⟩; have HA3 := Lib.hid (And.intro (HA2.out.1.pur k1 k2) (HA2.out.2.trans k2 (by simp))); clear k1 k2))
  go_ret
  exact ⟨rfl, HA3.out⟩
set_option maxHeartbeats 600000 in
theorem t_leave_turn (hx : ¬ who ∈ L) (a : TAt w t b R I p h n q true who dn L V) :
    Calls Try.prog 18 #[.pointer (some ⟨t, 0, none⟩), .int .i64 who] w fun e w' => e = .returned (.bool true) ∧ TAt w' t b R I p h n q false who dn L (pSet V (who : Int) 0) ∧ Chg [t, h] w w' := by
  have HA := Lib.hid a
  have HN : Hid (tW true who L (who : Int) = true) := Lib.hid (by unfold tW; simp)
  have HI : Hid (isIn L (who : Int) = false) := Lib.hid (by rw [isIn_nat]; simpa using hx)
  have c0 := a.c0
  clear a hx
  go_enter Try.func18, Try.ntmps18
  go_wp2_with (first
    | (go_at_call 24; refine (t_waits t b R I p h n q true who dn L V _ (who : Int) HA.out).mono ?_; rintro e w' ⟨rfl, k, rfl⟩; rw [HN.out]; have HA1 := Lib.hid (HA.out.drewN k))
    | (go_at_call 41; refine (cut_no b R I n L (who : Int) _ HI.out HA1.out.2.2.2.1).mono ?_; rintro e w2 ⟨rfl, k2, hw⟩; have HA2 : Hid (TAt w2 t b R I p h n q true who dn L V ∧ Chg [t, h] w w2) := Lib.hid (by rw [hw]; exact ⟨HA1.out.drewN k2, ((Chg.refl _ w).drewN _).drewN _⟩); clear hw; have d1 := HA2.out.1.c1; have d2 := HA2.out.1.c2; have f2 := HA2.out.1.2.2.1.free 2; have HA3 : Hid (TAt (w2.setCell ⟨t, 2, none⟩ (.bool false)) t b R I p h n q false who dn L V ∧ Chg [t, h] w (w2.setCell ⟨t, 2, none⟩ (.bool false))) := Lib.hid ⟨HA2.out.1.off, HA2.out.2.set (Or.inl (by simp)) _ _⟩)
    | (go_at_call 38; refine (pu_clear p h n q V (who : Int) _ HA3.out.1.2.2.2.2).mono ?_; rintro e w3 ⟨rfl, k1, k2⟩; have HA4 := Lib.hid (And.intro (HA3.out.1.pur k1 k2) (HA3.out.2.trans k2 (by simp))); clear k1 k2))
  go_ret
  exact ⟨rfl, HA4.out⟩
end
theorem t_new_end (b R I p h n : Nat) (q : Int) (w u1 u2 : World) (f : FAt u1 b R I n []) (f1 : Below w.heap.size w u1) (f2 : w.heap.size ≤ b ∧ w.heap.size ≤ R ∧ w.heap.size ≤ I) (u : PU u2 p h n q (List.replicate n 0)) (k1 : Below u1.heap.size u1 u2) (k2 : u1.heap.size ≤ p ∧ u1.heap.size ≤ h) :
    TAt (u2.alloc (.cells #[.pointer (some ⟨b, 0, none⟩), .pointer (some ⟨p, 0, none⟩), .bool false, .int .i64 0, .int .i64 0] 60)) u2.heap.size b R I p h n q false 0 0 [] (List.replicate n 0) ∧ Below w.heap.size w (u2.alloc (.cells #[.pointer (some ⟨b, 0, none⟩), .pointer (some ⟨p, 0, none⟩), .bool false, .int .i64 0, .int .i64 0] 60)) := by
  have l1 := f.lts
  have l2 := u.lts
  have s1 := f1.size
  have s2 := k1.size
  have k := (Chg.refl [] u2).alloc (.cells #[.pointer (some ⟨b, 0, none⟩), .pointer (some ⟨p, 0, none⟩), .bool false, .int .i64 0, .int .i64 0] 60)
  refine ⟨⟨by omega, fun e => (by cases e), Blk.newA u2 #[.pointer (some ⟨b, 0, none⟩), .pointer (some ⟨p, 0, none⟩), .bool false, .int .i64 0, .int .i64 0] 60, (f.fresh k1).chg k (by simp) (by simp) (by simp), u.chg k (by simp) (by simp)⟩, ?_⟩
  exact k.onto (f1.trans (k1.mono s1)) (by omega) (by simp)
set_option maxHeartbeats 1000000 in
theorem t_new (n : Nat) (x y q : Int) (w : World) (hn : min (max x 1) 1024 = (n : Int)) (hq : min (max y 1) 1000000 = q) :
    Calls Try.prog 7 #[.int .i64 x, .int .i64 y] w fun e w' => ∃ t b R I p h, e = .returned (.pointer (some ⟨t, 0, none⟩)) ∧ TAt w' t b R I p h n q false 0 0 [] (List.replicate n 0) ∧ Below w.heap.size w w' ∧ (w.heap.size ≤ t ∧ w.heap.size ≤ b ∧ w.heap.size ≤ R ∧ w.heap.size ≤ I ∧ w.heap.size ≤ p ∧ w.heap.size ≤ h) := by
  have HN := Lib.hid hn
  have HQ := Lib.hid hq
  clear hn hq
  go_enter Try.func7, Try.ntmps7
  go_wp2_with fail
  go_wp2_with (first
    | (go_at_call 27; refine (new_any n x _ HN.out).mono ?_; rintro e u1 ⟨b, R, I, rfl, k1, k2, k3⟩; have HF := Lib.hid (And.intro k1 (And.intro k2 k3)); clear k1 k2 k3)
    | (go_at_call 28; refine (pu_new n x y q _ HN.out HQ.out).mono ?_; rintro e u2 ⟨p, h, rfl, k1, k2, k3⟩; have HP := Lib.hid (And.intro k1 (And.intro k2 k3)); clear k1 k2 k3))
  go_ret
  obtain ⟨f0, f1, f2⟩ := HF.out
  obtain ⟨p0, p1, p2⟩ := HP.out
  obtain ⟨r1, r2⟩ := t_new_end b R I p h n q w u1 u2 f0 f1 f2 p0 p1 p2
  have s1 := f1.size
  have s2 := p1.size
  exact ⟨_, _, _, _, _, _, rfl, r1, r2, by omega⟩
end Go.Proofs.Yticdpcbmnahenaa
