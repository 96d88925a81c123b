/- Contracts of slots (package slots): Skip, Next, Slot, Close, Open. -/
import Derived.Test.YthofnpcaeopojaaMapI
import Derived.Test.YthofnpcaeopojaaShelf
import Derived.WalkKit
import Derived.ProofKit
import Derived.OpenShut
import Derived.Handy
import Derived.WalkLawsBesides
import Derived.WalkSpells
import Derived.Lib.Hide
import Derived.Lib.MinMax
import Derived.RegionTactic
import Derived.ChangeAlike
import Derived.WalkSmall
import Derived.Deep.QuietTactic
import Derived.BigQuiet
import Derived.StillTailTactics
import Derived.OwnWalk
import Derived.Outline
import Derived.Deep.CutRange
import Derived.Deep.CutBlock
namespace Go.Proofs.Ythofnpcaeopojaa
open Go.ChangeShapes Go.WideShapes Go.ChangeAt Go.RowKit
set_option linter.unusedSimpArgs false
set_option linter.unusedVariables false

def iw (v : Int) : Value := .int .i64 v
/-- Slots: the object, its row by slots, its map by numbers; the next number. -/
def SA (w : World) (s g m n : Nat) (W : List Int) (M : List (Int × Int × Nat)) (c : Nat) (nx : Int) : Prop :=
  Blk w s [.map (some m), .slice (some ⟨g, 0, none⟩) n n, .int .i64 nx] 54 ∧ Blk w g (W.map iw) 3 ∧ MpB w m M c ∧ W.length = n ∧ (s ≠ g ∧ s ≠ m ∧ g ≠ m)
section
variable {w w' : World} {s g m n : Nat} {W : List Int} {M : List (Int × Int × Nat)} {c : Nat} {nx : Int}
theorem SA.fresh (h : SA w s g m n W M c nx) (k : Below w.heap.size w w') : SA w' s g m n W M c nx := ⟨h.1.below k h.1.lt, h.2.1.below k h.2.1.lt, h.2.2.1.below k h.2.2.1.lt, h.2.2.2⟩
theorem SA.drew (h : SA w s g m n W M c nx) : SA w.drew s g m n W M c nx := h.fresh (Below.refl _ _).drew
theorem SA.set2 (h : SA w s g m n W M c nx) (v : Int) : SA (w.setCell ⟨s, 2, none⟩ (.int .i64 v)) s g m n W M c v :=
  ⟨h.1.set 2 _, h.2.1.other (fun e => h.2.2.2.2.1 e.symm) _ _, h.2.2.1.other (fun e => h.2.2.2.2.2.1 e.symm) _ _, h.2.2.2⟩
theorem SA.setW (h : SA w s g m n W M c nx) (j : Nat) (v : Int) : SA (w.setCell ⟨g, j, none⟩ (.int .i64 v)) s g m n (W.set j v) M c nx :=
  ⟨h.1.other h.2.2.2.2.1 _ _, by have := h.2.1.set j (.int .i64 v); rw [List.map_set]; exact this, h.2.2.1.other (fun e => h.2.2.2.2.2.2 e.symm) _ _, by rw [List.length_set]; exact h.2.2.2.1, h.2.2.2.2⟩
theorem SA.setM (h : SA w s g m n W M c nx) (M' : List (Int × Int × Nat)) (c' : Nat) : SA (setMp w m M' c') s g m n W M' c' nx :=
  ⟨h.1.chg (setMp_chg w m M' c') (by simp; exact h.2.2.2.2.2.1), h.2.1.chg (setMp_chg w m M' c') (by simp; exact h.2.2.2.2.2.2), setMp_same h.2.2.1.lt M' c', h.2.2.2⟩
theorem SA.wcell (h : SA w s g m n W M c nx) (j : Nat) (hj : j < n) : w.cell? ⟨g, j, none⟩ = some (.int .i64 (W.getD j 0)) :=
  h.2.1.cell (by
    have hl : j < W.length := by rw [h.2.2.2.1]; exact hj
    rw [List.getElem?_map, List.getElem?_eq_getElem hl]
    simp [List.getD, List.getElem?_eq_getElem hl, iw])
end
theorem zeroInt (w : World) : (zeroValue 3).run Try.prog w = .ok (.int .i64 0) w := by kernel_rfl
theorem sl_skip (s g m n : Nat) (W : List Int) (M : List (Int × Int × Nat)) (c : Nat) (nx : Int) (w : World) (h0 : 0 ≤ nx) (h1 : nx < 4096) (h : SA w s g m n W M c nx) :
    Calls Try.prog 11 #[.pointer (some ⟨s, 0, none⟩)] w fun e w' => e = .returned (.int .i64 nx) ∧ SA w' s g m n W M c (nx + 1) ∧ Chg [s] w w' := by
  have H := Lib.hid h
  have c2 := h.1.cell (i := 2) rfl
  have f2 := h.1.free 2
  clear h
  go_enter Try.func11, Try.ntmps11
  go_wp2
  go_ret
  exact ⟨rfl, H.out.set2 _, (Chg.refl _ _).set (Or.inl (by simp)) _ _⟩
theorem sl_skip_end (s g m n : Nat) (W : List Int) (M : List (Int × Int × Nat)) (c : Nat) (nx : Int) (w : World) (h1 : 4096 ≤ nx) (h : SA w s g m n W M c nx) :
    Calls Try.prog 11 #[.pointer (some ⟨s, 0, none⟩)] w fun e w' => e = .returned (.int .i64 (-1)) ∧ w = w' := by
  have c2 := h.1.cell (i := 2) rfl
  clear h
  go_enter Try.func11, Try.ntmps11
  go_wp2
  go_ret
  exact ⟨rfl, rfl⟩
theorem sl_next (s g m n : Nat) (W : List Int) (M : List (Int × Int × Nat)) (c : Nat) (nx : Int) (w : World) (h : SA w s g m n W M c nx) :
    Calls Try.prog 21 #[.pointer (some ⟨s, 0, none⟩)] w fun e w' => e = .returned (.int .i64 nx) ∧ w = w' := by
  have c2 := h.1.cell (i := 2) rfl
  clear h
  go_enter Try.func21, Try.ntmps21
  go_wp2
  go_ret
  exact ⟨rfl, rfl⟩
theorem sl_slot (s g m n : Nat) (W : List Int) (M : List (Int × Int × Nat)) (c : Nat) (nx id v : Int) (ok : Bool) (w : World) (h : SA w s g m n W M c nx) (hv : ((mIdx M id).map (·.2)).getD 0 = v) (hok : (mIdx M id).isSome = ok) :
    Calls Try.prog 22 #[.pointer (some ⟨s, 0, none⟩), .int .i64 id] w fun e w' => e = .returned (.tuple #[.int .i64 v, .bool ok]) ∧ w = w' := by
  have c0 := h.1.cell (i := 0) rfl
  have hl := run_look (P := Try.prog) Try.underlying51 Try.underlying3 zeroInt h.2.2.1 id
  rw [hv, hok] at hl
  clear h hv hok
  go_enter Try.func22, Try.ntmps22
  go_wp2
  go_ret2
  exact ⟨rfl, rfl⟩
theorem sl_close_no (s g m n : Nat) (W : List Int) (M : List (Int × Int × Nat)) (c : Nat) (nx id : Int) (w : World) (h : SA w s g m n W M c nx) (hk : mIdx M id = none) :
    Calls Try.prog 12 #[.pointer (some ⟨s, 0, none⟩), .int .i64 id] w fun e w' => e = .returned (.bool false) ∧ w = w' := by
  have H := Lib.hid h
  have HK : Hid (((mIdx M id).map (·.2)).getD 0 = 0 ∧ (mIdx M id).isSome = false) := Lib.hid (by rw [hk]; exact ⟨rfl, rfl⟩)
  clear h hk
  go_enter Try.func12, Try.ntmps12
  go_wp2_with (go_at_call 22; refine (sl_slot s g m n W M c nx id 0 false _ H.out HK.out.1 HK.out.2).mono ?_; rintro e w' ⟨rfl, rfl⟩)
  go_ret
  exact ⟨rfl, rfl⟩
set_option maxHeartbeats 1000000 in
theorem sl_close (s g m n : Nat) (W : List Int) (M : List (Int × Int × Nat)) (c : Nat) (nx id : Int) (i j : Nat) (w : World) (hn : n ≤ 1024) (hj : j < n) (h : SA w s g m n W M c nx) (hk : mIdx M id = some (i, (j : Int))) :
    Calls Try.prog 12 #[.pointer (some ⟨s, 0, none⟩), .int .i64 id] w fun e w' => e = .returned (.bool true) ∧ SA w' s g m n (W.set j (-1)) (M.eraseIdx i) c nx ∧ Chg [s, g, m] w w' := by
  have H := Lib.hid h
  have HK : Hid (((mIdx M id).map (·.2)).getD 0 = (j : Int) ∧ (mIdx M id).isSome = true) := Lib.hid (by rw [hk]; exact ⟨rfl, rfl⟩)
  have c1 := h.1.cell (i := 1) rfl
  have c0 := h.1.cell (i := 0) rfl
  have wc := h.wcell j hj
  have wf := h.2.1.free j
  have hne := h.2.2.2.2.1
  have i0 : (0 : Int) ≤ (j : Int) := by omega
  have i1 : (j : Int) < (n : Int) := by omega
  obtain ⟨w5, hw5⟩ : ∃ w5, setMp (w.setCell ⟨g, j, none⟩ (.int .i64 (-1))) m (M.eraseIdx i) c = w5 := ⟨_, rfl⟩
  have hdel := fun ty => run_del (P := Try.prog) Try.underlying51 Try.underlying3 (h.setW j (-1)).2.2.1 id i j hk ty
  rw [hw5] at hdel
  have H5 : Hid (SA w5 s g m n (W.set j (-1)) (M.eraseIdx i) c nx ∧ Chg [s, g, m] w w5) := Lib.hid (by
    rw [← hw5]
    exact ⟨(h.setW j (-1)).setM _ _, ((Chg.refl [s, g, m] w).set (Or.inl (by simp)) _ _).trans (setMp_chg _ _ _ _) (by simp)⟩)
  clear h hk hw5
  go_enter Try.func12, Try.ntmps12
  go_wp2_with (go_at_call 22; refine (sl_slot s g m n W M c nx id j true _ H.out HK.out.1 HK.out.2).mono ?_; rintro e w' ⟨rfl, rfl⟩)
  go_outline
  go_ret
  exact ⟨rfl, H5.out⟩
end Go.Proofs.Ythofnpcaeopojaa
