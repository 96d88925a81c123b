/- The document's own answer for turns (package reparteeref27), by value. -/
import Derived.Test.YticdpcbmnahenaaTurns2
import Derived.Test.YticdpcbmnahenaaRowR
import Derived.Test.YticdpcbmnahenaaPurRef5
namespace Go.Proofs.Yticdpcbmnahenaa
open Go.ChangeShapes Go.WideShapes Go.ChangeAt Go.RowKit
set_option linter.unusedSimpArgs false
set_option linter.unusedVariables false

/-- The box of the turns that were handed over, and the result's cells. -/
def TB (w0 w : World) (bc rc : List Value) : Prop :=
  Blk w w0.heap.size bc 32 ∧ Blk w (w0.heap.size + 1) rc 32 ∧ Below w0.heap.size w0 w
theorem TB.start (w0 : World) (bc rc : Array Value) : TB w0 ((w0.alloc (.cells bc 32)).alloc (.cells rc 32)) bc.toList rc.toList := by
  refine ⟨(Blk.newA w0 _ _).alloc _, ?_, ((Below.refl _ _).alloc (Nat.le_refl _) _).alloc (by simp) _⟩
  have h := Blk.newA (w0.alloc (.cells bc 32)) rc 32
  rw [World.size_alloc] at h
  exact h
theorem TB.on {w0 w w' : World} {bc rc : List Value} (s : TB w0 w bc rc) (k : Below w.heap.size w w') : TB w0 w' bc rc :=
  ⟨s.1.below k s.1.lt, s.2.1.below k s.2.1.lt, s.2.2.trans (k.mono s.2.2.size)⟩
theorem TB.drew {w0 w : World} {bc rc : List Value} (s : TB w0 w bc rc) : TB w0 w.drew bc rc := s.on (Below.refl _ _).drew
theorem TB.size {w0 w : World} {bc rc : List Value} (s : TB w0 w bc rc) : w0.heap.size + 2 ≤ w.heap.size := by
  have := s.2.1.lt; omega
theorem TB.setB {w0 w : World} {bc rc : List Value} (s : TB w0 w bc rc) (i : Nat) (v : Value) : TB w0 (w.setCell ⟨w0.heap.size, i, none⟩ v) (bc.set i v) rc :=
  ⟨s.1.set i v, s.2.1.other (by omega) _ _, s.2.2.setCell (by simp) _⟩
theorem TB.setR {w0 w : World} {bc : List Value} {x0 x1 x2 x3 x4 x5 a b c d e f : Value} (s : TB w0 w bc [x0, x1, x2, x3, x4, x5]) :
    TB w0 ((((((w.setCell ⟨w0.heap.size + 1, 0, none⟩ a).setCell ⟨w0.heap.size + 1, 1, none⟩ b).setCell ⟨w0.heap.size + 1, 2, none⟩ c).setCell ⟨w0.heap.size + 1, 3, none⟩ d).setCell ⟨w0.heap.size + 1, 4, none⟩ e).setCell ⟨w0.heap.size + 1, 5, none⟩ f) bc [a, b, c, d, e, f] :=
  ⟨(((((s.1.other (by omega) _ _).other (by omega) _ _).other (by omega) _ _).other (by omega) _ _).other (by omega) _ _).other (by omega) _ _, (((((s.2.1.set 0 a).set 1 b).set 2 c).set 3 d).set 4 e).set 5 f, (((((s.2.2.setCell (by simp) _).setCell (by simp) _).setCell (by simp) _).setCell (by simp) _).setCell (by simp) _).setCell (by simp) _⟩
/-- Nothing that lies from lo9 on has changed by a store to the box or to the result. -/
theorem LR.setB {w0 w : World} {r : Option Addr} {L : List Nat} {c lo9 : Nat} (h : LR w lo9 r L c) (hl : w0.heap.size + 2 ≤ lo9) (i : Nat) (v : Value) : LR (w.setCell ⟨w0.heap.size, i, none⟩ v) lo9 r L c := h.chg ((Chg.refl [w0.heap.size] w).set (Or.inl (by simp)) _ _) (by simp; omega)
theorem chg6 {w0 w : World} {a b c d e f : Value} : Chg [w0.heap.size + 1] w ((((((w.setCell ⟨w0.heap.size + 1, 0, none⟩ a).setCell ⟨w0.heap.size + 1, 1, none⟩ b).setCell ⟨w0.heap.size + 1, 2, none⟩ c).setCell ⟨w0.heap.size + 1, 3, none⟩ d).setCell ⟨w0.heap.size + 1, 4, none⟩ e).setCell ⟨w0.heap.size + 1, 5, none⟩ f) :=
  ((((((Chg.refl [w0.heap.size + 1] w).set (Or.inl (by simp)) _ _).set (Or.inl (by simp)) _ _).set (Or.inl (by simp)) _ _).set (Or.inl (by simp)) _ _).set (Or.inl (by simp)) _ _).set (Or.inl (by simp)) _ _
/-- What a call of the document's turns gives back. -/
def TPost (w0 : World) (lo n : Nat) (q : Int) (L : List Nat) (M : List (Int × Int)) (wv : Int) (dn : Nat) (v : Value) (w' : World) : Prop :=
  ∃ r cr a c, v = .agg #[.slice r L.length cr, .int .i64 n, .int .i64 q, .slice a M.length c, .int .i64 wv, .int .i64 dn] ∧ LR w' lo r L cr ∧ RL w' lo a M ∧ (M.length ≤ c ∧ c ≤ 9223372036854775807) ∧ Below w0.heap.size w0 w'
set_option maxRecDepth 20000 in
set_option maxHeartbeats 4000000 in
theorem tr_waits (lo n : Nat) (q : Int) (r : Option Addr) (L : List Nat) (cr : Nat) (a : Option Addr) (M : List (Int × Int)) (c : Nat) (wv : Int) (dn : Nat) (on : Bool) (who : Nat) (id : Int) (w : World) (hL : L.length ≤ 1024) (hM : M.length ≤ 1000) (hc : M.length ≤ c ∧ c ≤ 9223372036854775807) (hr : LR w lo r L cr) (ha : RL w lo a M) (hw : wv = if on = true then (who : Int) else -1) :
    Calls Try.prog 39 #[.agg #[.slice r L.length cr, .int .i64 n, .int .i64 q, .slice a M.length c, .int .i64 wv, .int .i64 dn], .int .i64 id] w fun e w' => e = .returned (.bool (tW on who L id)) ∧ Below w.heap.size w w' := by
  obtain ⟨l, hl⟩ : ∃ l, L.length = l := ⟨_, rfl⟩
  have HL := Lib.hid hl
  have HR := Lib.hid hr
  rw [hl] at hL ⊢
  have HWV := Lib.hid hw
  clear hl hr hw
  have HB : Hid (Blk (w.alloc (Obj.cells #[.slice r l cr, .int .i64 n, .int .i64 q, .slice a M.length c, .int .i64 wv, .int .i64 dn] 32)) w.heap.size [.slice r l cr, .int .i64 n, .int .i64 q, .slice a M.length c, .int .i64 wv, .int .i64 dn] 32 ∧ Below w.heap.size w (w.alloc (Obj.cells #[.slice r l cr, .int .i64 n, .int .i64 q, .slice a M.length c, .int .i64 wv, .int .i64 dn] 32))) := Lib.hid ⟨Blk.newA w _ _, (Below.refl _ _).alloc (Nat.le_refl _) _⟩
  go_enter Try.func39, Try.ntmps39
  go_upto_region 1 with fail
  revert HB
  generalize w.alloc (Obj.cells #[.slice r l cr, .int .i64 n, .int .i64 q, .slice a M.length c, .int .i64 wv, .int .i64 dn] 32) = W
  intro HB
  have c0 := HB.out.1.cell (i := 0) rfl
  have c4 := HB.out.1.cell (i := 4) rfl
  cases hin : isIn L id with
  | true =>
    have hp := plc_in hin
    obtain ⟨p, hpp⟩ : ∃ p, plc L id = p := ⟨_, rfl⟩
    have HP := Lib.hid hpp
    rw [hpp] at hp
    have HV : Hid (tW on who L id = true) := Lib.hid (by unfold tW; rw [hin]; simp)
    clear hpp hin
    go_wp2_with (go_at_call 47; rw [← HL.out]; refine (find_r lo r L cr id _ (by have := HL.out; omega) (HR.out.fresh HB.out.2)).mono ?_; rintro e w' ⟨rfl, rfl⟩; rw [HP.out])
    go_ret
    exact ⟨Pur.ret_b HV.out.symm, HB.out.2⟩
  | false =>
    have HP := Lib.hid (plc_out hin)
    have HV : Hid (tW on who L id = (on && decide ((who : Int) = id))) := Lib.hid (by unfold tW; rw [hin]; simp)
    clear hin
    cases on with
    | false =>
      have hw2 : wv = -1 := HWV.out
      subst hw2
      clear HWV
      go_wp2_with (go_at_call 47; rw [← HL.out]; refine (find_r lo r L cr id _ (by have := HL.out; omega) (HR.out.fresh HB.out.2)).mono ?_; rintro e w' ⟨rfl, rfl⟩; rw [HP.out])
      go_ret
      exact ⟨Pur.ret_b (by rw [HV.out]; rfl), HB.out.2⟩
    | true =>
      have hw2 : wv = (who : Int) := HWV.out
      subst hw2
      clear HWV
      have hge : (0 : Int) ≤ (who : Int) := by omega
      go_wp2_with (go_at_call 47; rw [← HL.out]; refine (find_r lo r L cr id _ (by have := HL.out; omega) (HR.out.fresh HB.out.2)).mono ?_; rintro e w' ⟨rfl, rfl⟩; rw [HP.out])
      go_ret
      exact ⟨Pur.ret_b (by rw [HV.out]; by_cases e : (who : Int) = id <;> simp [e]), HB.out.2⟩
set_option maxRecDepth 20000 in
set_option maxHeartbeats 4000000 in
theorem tr_wake_turn (lo n : Nat) (q : Int) (r : Option Addr) (L : List Nat) (cr : Nat) (a : Option Addr) (M : List (Int × Int)) (c : Nat) (wv : Int) (dn : Nat) (w : World) (hL : L.length ≤ 1024) (hM : M.length ≤ 1000) (hc : M.length ≤ c ∧ c ≤ 9223372036854775807) (hr : LR w lo r L cr) (ha : RL w lo a M) (h0 : 0 ≤ wv) :
    Calls Try.prog 9 #[.agg #[.slice r L.length cr, .int .i64 n, .int .i64 q, .slice a M.length c, .int .i64 wv, .int .i64 dn], .int .i64 wv] w fun e w' => ∃ v, e = .returned (.tuple #[v, .bool false]) ∧ TPost w lo n q L M wv dn v w' := by
  obtain ⟨l, hl⟩ : ∃ l, L.length = l := ⟨_, rfl⟩
  have HL := Lib.hid hl
  obtain ⟨m, hm⟩ : ∃ m, M.length = m := ⟨_, rfl⟩
  have HM := Lib.hid hm
  have HR := Lib.hid hr
  have HA := Lib.hid ha
  have HLM : Hid (L.length ≤ 1024 ∧ M.length ≤ 1000 ∧ (M.length ≤ c ∧ c ≤ 9223372036854775807)) := Lib.hid ⟨hL, hM, hc⟩
  rw [hl] at hL ⊢
  rw [hm] at hM hc ⊢
  clear hl hm hr ha
  have HB := Lib.hid (TB.start w #[.slice r l cr, .int .i64 n, .int .i64 q, .slice a m c, .int .i64 wv, .int .i64 dn] #[.slice none 0 0, .int .i64 0, .int .i64 0, .slice none 0 0, .int .i64 0, .int .i64 0])
  go_enter Try.func9, Try.ntmps9
  go_upto_region 1 with fail
  revert HB
  generalize (w.alloc (Obj.cells #[.slice r l cr, .int .i64 n, .int .i64 q, .slice a m c, .int .i64 wv, .int .i64 dn] 32)).alloc (Obj.cells #[.slice none 0 0, .int .i64 0, .int .i64 0, .slice none 0 0, .int .i64 0, .int .i64 0] 32) = W
  intro HB
  have c4 := HB.out.1.cell (i := 4) rfl
  go_upto_region 2 with fail
  have q0 := HB.out.1.cell (i := 0) rfl
  have q1 := HB.out.1.cell (i := 1) rfl
  have q2 := HB.out.1.cell (i := 2) rfl
  have q3 := HB.out.1.cell (i := 3) rfl
  have q4 := HB.out.1.cell (i := 4) rfl
  have q5 := HB.out.1.cell (i := 5) rfl
  have r0 := HB.out.2.1.cell (i := 0) rfl
  have r1 := HB.out.2.1.cell (i := 1) rfl
  have r2 := HB.out.2.1.cell (i := 2) rfl
  have r3 := HB.out.2.1.cell (i := 3) rfl
  have r4 := HB.out.2.1.cell (i := 4) rfl
  have r5 := HB.out.2.1.cell (i := 5) rfl
  have f0 := HB.out.2.1.free 0
  have f1 := HB.out.2.1.free 1
  have f2 := HB.out.2.1.free 2
  have f3 := HB.out.2.1.free 3
  have f4 := HB.out.2.1.free 4
  have f5 := HB.out.2.1.free 5
  go_wp2_with fail
  have HZ := Lib.hid (TB.setR (a := .slice r l cr) (b := .int .i64 n) (c := .int .i64 q) (d := .slice a m c) (e := .int .i64 wv) (f := .int .i64 dn) HB.out)
  have HCH := Lib.hid (chg6 (w0 := w) (w := W) (a := .slice r l cr) (b := .int .i64 n) (c := .int .i64 q) (d := .slice a m c) (e := .int .i64 wv) (f := .int .i64 dn))
  clear q0 q1 q2 q3 q4 q5 r0 r1 r2 r3 r4 r5 f0 f1 f2 f3 f4 f5
  revert HZ HCH
  generalize ((((((W).setCell ⟨w.heap.size + 1, 0, none⟩ (.slice r l cr)).setCell ⟨w.heap.size + 1, 1, none⟩ (.int .i64 n)).setCell ⟨w.heap.size + 1, 2, none⟩ (.int .i64 q)).setCell ⟨w.heap.size + 1, 3, none⟩ (.slice a m c)).setCell ⟨w.heap.size + 1, 4, none⟩ (.int .i64 wv)).setCell ⟨w.heap.size + 1, 5, none⟩ (.int .i64 dn) = WZ
  intro HZ HCH
  have r0 := HZ.out.2.1.cell (i := 0) rfl
  have r1 := HZ.out.2.1.cell (i := 1) rfl
  have r2 := HZ.out.2.1.cell (i := 2) rfl
  have r3 := HZ.out.2.1.cell (i := 3) rfl
  have r4 := HZ.out.2.1.cell (i := 4) rfl
  have r5 := HZ.out.2.1.cell (i := 5) rfl
  refine bodyPost_ret (v := .tuple #[.agg #[.slice r l cr, .int .i64 n, .int .i64 q, .slice a m c, .int .i64 wv, .int .i64 dn], .bool false]) (by simp [results, Try.results9, go_sem, r0, r1, r2, r3, r4, r5]) rfl ?_
  exact ⟨_, rfl, r, cr, a, c, by rw [HL.out, HM.out], HR.out.fresh HZ.out.2.2, HA.out.fresh HZ.out.2.2, HLM.out.2.2, HZ.out.2.2⟩
end Go.Proofs.Yticdpcbmnahenaa
