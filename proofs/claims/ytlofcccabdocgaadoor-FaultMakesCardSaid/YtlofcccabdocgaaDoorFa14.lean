/- Faults: Code, Where, Who. -/
import Derived.Test.YtlofcccabdocgaaDoorFa13
import Derived.LaidEql
import Derived.Stop.Asserts
import Derived.RowKitTokens
import Derived.Deep.LoopGhost
import Derived.Defers
import Derived.Recover
import Derived.WalkKit
import Derived.ProofKit
import Derived.Handy
import Derived.WalkLawsBesides
import Derived.WalkSpells
import Derived.Lib.Hide
import Derived.Lib.SliceRun
import Derived.Deep.RegionLaw
import Derived.RegionTactic
import Derived.ChangeAlike
import Derived.WalkSmall
import Derived.Deep.QuietTactic
import Derived.BigQuiet
import Derived.OwnWalk
import Derived.Outline
import Derived.Deep.CutRange
import Derived.Deep.CutBlock
import Derived.LoopTactic
namespace Go.Proofs.YtlofcccabdocgaaDoor
open Go.ChangeShapes Go.WideShapes Go.ChangeAt Go.RowKit
set_option linter.unusedSimpArgs false
set_option linter.unusedVariables false

open Go.Extern.Stop Go.Stop Go.Extern
set_option maxRecDepth 20000 in
set_option maxHeartbeats 16000000 in
theorem fa_code (L : List Wp) (len : Nat) (hl : L.length = len) (e : Int) (h0 : e ≠ 0) (v : Value) (w : World) (HE : EV w L e v) (hg : w.cell? ⟨0, 0, none⟩ = some (.iface 92 (.agg #[.pointer (some ⟨4, 29, none⟩)]))) :
    Calls Tryd.prog 8 #[v] w fun r w' => r = .returned (.int .i64 e) ∧ Below w.heap.size w w' := by
  obtain ⟨T0, p0, rfl⟩ := HE.ne
  have k0 : (e != 0) = true := by simp [h0]
  have HH := Lib.hid (And.intro hl (And.intro HE hg))
  clear hl HE hg h0
  go_enter Tryd.func8, Tryd.ntmps8
  go_wp2_with (go_at_call 23; (with_reducible refine (ff_E L len HH.out.1 e _ _ HH.out.2.1 HH.out.2.2).mono ?_); rintro r1 W3 ⟨rfl, q1⟩; have HB := Lib.hid q1; clear q1)
  go_ret
  exact ⟨rfl, HB.out⟩
set_option maxRecDepth 20000 in
set_option maxHeartbeats 16000000 in
theorem fa_codeN (w : World) : Calls Tryd.prog 8 #[.nilIface] w fun r w' => r = .returned (.int .i64 0) ∧ w' = w := by
  go_enter Tryd.func8, Tryd.ntmps8
  go_wp2
  go_ret
  exact ⟨rfl, rfl⟩
set_option maxRecDepth 20000 in
set_option maxHeartbeats 16000000 in
theorem fe_esIsN (o : Int) (w : World) : Calls Tryd.prog 25 #[.nilIface, .iface 23 (.int .i64 o)] w fun r w' => r = .returned (.bool false) ∧ w' = w := by
  have hn := run_eql_iface_nil_left (P := Tryd.prog) w 23 (.int .i64 o) Tryd.underlying29
  go_enter Tryd.func25, Tryd.ntmps25
  go_wp2
  go_ret
  exact ⟨rfl, rfl⟩
set_option maxRecDepth 20000 in
set_option maxHeartbeats 16000000 in
theorem fe_fIsN (o : Int) (w : World) :
    Calls Tryd.prog 9 #[.nilIface, .int .i64 o] w fun r w' => r = .returned (.bool false) ∧ w' = w := by
  have hmf : ∀ (fn : Fn) (first cap : Array Value) (w : World), (Instr.makeFunc fn first cap).run Tryd.prog w = .ok (.func fn first cap) w := fun _ _ _ _ => rfl
  by_cases h0 : o = 0
  · have k0 : (o != 0) = false := by simp [h0]
    clear h0
    go_enter_defers Tryd.func9, Tryd.ntmps9
    go_wp2
    refine leaves_cons (f := 24) (args := #[]) (by simp) (by simp [go_sem]) ?_
    refine (fe_idle _).mono ?_
    rintro e u' w'' ⟨rfl, rfl, rfl⟩
    simp [Leaves, settle, results, Tryd.results9, go_sem]
  · have k0 : (o != 0) = true := by simp [h0]
    clear h0
    go_enter_defers Tryd.func9, Tryd.ntmps9
    go_wp2_with (go_at_call 25; (with_reducible refine (fe_esIsN o _).mono ?_); rintro r1 W3 ⟨rfl, rfl⟩)
    refine leaves_cons (f := 24) (args := #[]) (by simp) (by simp [go_sem]) ?_
    refine (fe_idle _).mono ?_
    rintro e u' w'' ⟨rfl, rfl, rfl⟩
    simp [Leaves, settle, results, Tryd.results9, go_sem]
/-- The place that is told of wraps. -/
def Fa.wh (L : List Wp) : (Int × Int) × Bool := match Fa.fst true L with
  | some x => ((x.l, x.c), true)
  | none => ((0, 0), false)
def Fa.who (L : List Wp) : ByteArray × Bool := match Fa.fst false L with
  | some x => (x.n, true)
  | none => (ByteArray.empty, false)
set_option maxRecDepth 20000 in
set_option maxHeartbeats 16000000 in
theorem fa_where (L : List Wp) (len : Nat) (hl : L.length = len) (e : Int) (v : Value) (l c : Int) (b : Bool) (hw : Fa.wh L = ((l, c), b)) (w : World) (HE : EV w L e v) (hg : w.cell? ⟨0, 0, none⟩ = some (.iface 92 (.agg #[.pointer (some ⟨4, 29, none⟩)]))) :
    Calls Tryd.prog 12 #[v] w fun r w' => r = .returned (.tuple #[.agg #[.int .i64 l, .int .i64 c], .bool b]) ∧ Below w.heap.size w w' := by
  obtain ⟨T0, p0, rfl⟩ := HE.ne
  obtain ⟨Q, hQ⟩ : ∃ Q, w.heap.size = Q := ⟨_, rfl⟩
  obtain ⟨W1, hW1⟩ : ∃ W1, w.alloc (.cells #[.int .i64 0, .int .i64 0] 33) = W1 := ⟨_, rfl⟩
  have k1 : Below w.heap.size w W1 := by rw [← hW1]; exact (Below.refl _ _).alloc (Nat.le_refl _) _
  have klt := World.block_lt_of_cell? _ _ hg
  have HB : Hid (L.length = len ∧ EV W1 L e (.iface T0 p0) ∧ W1.cell? ⟨0, 0, none⟩ = some (.iface 92 (.agg #[.pointer (some ⟨4, 29, none⟩)])) ∧ Blk W1 Q [.int .i64 0, .int .i64 0] 33 ∧ Below w.heap.size w W1 ∧ w.heap.size = Q) := Lib.hid ⟨hl, EV.below k1 HE, (k1.cell klt).trans hg, by rw [← hW1, ← hQ]; exact Blk.newA _ _ _, k1, hQ⟩
  unfold Fa.wh at hw
  clear hl HE hg k1 klt
  cases ho : Fa.fst true L with
  | some x =>
    rw [ho] at hw
    simp only [Prod.mk.injEq] at hw
    obtain ⟨⟨rfl, rfl⟩, rfl⟩ := hw
    have HO := Lib.hid ho
    clear ho
    go_enter Tryd.func12, Tryd.ntmps12
    go_upto_region 1 with fail
    clear hW1
    try rw [hQ]
    clear hQ
    go_upto_region 2 with (go_at_call 26; (with_reducible refine (ff_Ay L len HB.out.1 e _ x HO.out _ HB.out.2.1 HB.out.2.2.1).mono ?_); rintro r1 W3 ⟨b', u, rfl, q1, q2⟩; have HR : Hid (Blk W3 b' [.int .i64 x.l, .int .i64 x.c, u] 48 ∧ Blk W3 Q [.int .i64 0, .int .i64 0] 33 ∧ Below w.heap.size w W3) := Lib.hid ⟨q1, HB.out.2.2.2.1.chg (l := []) (Chg.of_fresh q2) (by simp), HB.out.2.2.2.2.1.trans (q2.mono HB.out.2.2.2.2.1.size)⟩; clear q1 q2)
    have d0 := HR.out.1.cell (i := 0) rfl
    have d1 := HR.out.1.cell (i := 1) rfl
    have p0' := HR.out.2.1.cell (i := 0) rfl
    have p1' := HR.out.2.1.cell (i := 1) rfl
    have f0 := HR.out.2.1.free 0
    have f1 := HR.out.2.1.free 1
    have HW9 : Hid (Blk ((W3.setCell ⟨Q, 0, none⟩ (.int .i64 x.l)).setCell ⟨Q, 1, none⟩ (.int .i64 x.c)) Q [.int .i64 x.l, .int .i64 x.c] 33 ∧ Below w.heap.size w ((W3.setCell ⟨Q, 0, none⟩ (.int .i64 x.l)).setCell ⟨Q, 1, none⟩ (.int .i64 x.c))) := Lib.hid ⟨(HR.out.2.1.set 0 _).set 1 _, HR.out.2.2.trans ((((Chg.refl [Q] W3).set (Or.inl (List.mem_singleton.2 rfl)) 0 _).set (Or.inl (List.mem_singleton.2 rfl)) 1 _).below HR.out.2.2.size (by intro y hy; simp at hy; rw [hy]; exact Nat.le_of_eq HB.out.2.2.2.2.2))⟩
    go_wp2_with fail
    clear d0 d1 p0' p1' f0 f1
    revert HW9
    generalize ((W3.setCell ⟨Q, 0, none⟩ (.int .i64 x.l)).setCell ⟨Q, 1, none⟩ (.int .i64 x.c)) = W9
    intro HW9
    have r0 := HW9.out.1.cell (i := 0) rfl
    have r1 := HW9.out.1.cell (i := 1) rfl
    (try simp only [Exit.inBlock, Exit.then])
    exact bodyPost_ret (v := .tuple #[.agg #[.int .i64 x.l, .int .i64 x.c], .bool true]) (by simp [results, Tryd.results12, go_sem, r0, r1]) rfl ⟨rfl, HW9.out.2⟩
  | none =>
    rw [ho] at hw
    simp only [Prod.mk.injEq] at hw
    obtain ⟨⟨rfl, rfl⟩, rfl⟩ := hw
    have HO := Lib.hid ho
    clear ho
    go_enter Tryd.func12, Tryd.ntmps12
    go_upto_region 1 with fail
    clear hW1
    try rw [hQ]
    clear hQ
    go_upto_region 2 with (go_at_call 26; (with_reducible refine (ff_An L len HB.out.1 e _ HO.out _ HB.out.2.1 HB.out.2.2.1).mono ?_); rintro r1 W3 ⟨rfl, q2⟩; have HR : Hid (Blk W3 Q [.int .i64 0, .int .i64 0] 33 ∧ Below w.heap.size w W3) := Lib.hid ⟨HB.out.2.2.2.1.chg (l := []) (Chg.of_fresh q2) (by simp), HB.out.2.2.2.2.1.trans (q2.mono HB.out.2.2.2.2.1.size)⟩; clear q2)
    have p0' := HR.out.1.cell (i := 0) rfl
    have p1' := HR.out.1.cell (i := 1) rfl
    have f0 := HR.out.1.free 0
    have f1 := HR.out.1.free 1
    have HW9 : Hid (Blk ((W3.setCell ⟨Q, 0, none⟩ (.int .i64 0)).setCell ⟨Q, 1, none⟩ (.int .i64 0)) Q [.int .i64 0, .int .i64 0] 33 ∧ Below w.heap.size w ((W3.setCell ⟨Q, 0, none⟩ (.int .i64 0)).setCell ⟨Q, 1, none⟩ (.int .i64 0))) := Lib.hid ⟨(HR.out.1.set 0 _).set 1 _, HR.out.2.trans ((((Chg.refl [Q] W3).set (Or.inl (List.mem_singleton.2 rfl)) 0 _).set (Or.inl (List.mem_singleton.2 rfl)) 1 _).below HR.out.2.size (by intro y hy; simp at hy; rw [hy]; exact Nat.le_of_eq HB.out.2.2.2.2.2))⟩
    go_wp2_with fail
    clear p0' p1' f0 f1
    revert HW9
    generalize ((W3.setCell ⟨Q, 0, none⟩ (.int .i64 0)).setCell ⟨Q, 1, none⟩ (.int .i64 0)) = W9
    intro HW9
    have r0 := HW9.out.1.cell (i := 0) rfl
    have r1 := HW9.out.1.cell (i := 1) rfl
    (try simp only [Exit.inBlock, Exit.then])
    exact bodyPost_ret (v := .tuple #[.agg #[.int .i64 0, .int .i64 0], .bool false]) (by simp [results, Tryd.results12, go_sem, r0, r1]) rfl ⟨rfl, HW9.out.2⟩
set_option maxRecDepth 20000 in
set_option maxHeartbeats 16000000 in
theorem fa_who (L : List Wp) (len : Nat) (hl : L.length = len) (e : Int) (v : Value) (nm : ByteArray) (b : Bool) (hw : Fa.who L = (nm, b)) (w : World) (HE : EV w L e v) (hg : w.cell? ⟨0, 0, none⟩ = some (.iface 92 (.agg #[.pointer (some ⟨4, 29, none⟩)]))) :
    Calls Tryd.prog 13 #[v] w fun r w' => r = .returned (.tuple #[.string nm, .bool b]) ∧ Below w.heap.size w w' := by
  obtain ⟨T0, p0, rfl⟩ := HE.ne
  have HB : Hid (L.length = len ∧ EV w L e (.iface T0 p0) ∧ w.cell? ⟨0, 0, none⟩ = some (.iface 92 (.agg #[.pointer (some ⟨4, 29, none⟩)]))) := Lib.hid ⟨hl, HE, hg⟩
  unfold Fa.who at hw
  clear hl HE hg
  cases ho : Fa.fst false L with
  | some x =>
    rw [ho] at hw
    simp only [Prod.mk.injEq] at hw
    obtain ⟨rfl, rfl⟩ := hw
    have HO := Lib.hid ho
    clear ho
    go_enter Tryd.func13, Tryd.ntmps13
    go_upto_region 2 with (go_at_call 27; (with_reducible refine (ff_Iy L len HB.out.1 e _ x HO.out _ HB.out.2.1 HB.out.2.2).mono ?_); rintro r1 W3 ⟨b', u, rfl, q1, q2⟩; have HR := Lib.hid (And.intro q1 q2); clear q1 q2)
    have d0 := HR.out.1.cell (i := 0) rfl
    go_wp2_with fail
    go_ret2
    exact ⟨rfl, HR.out.2⟩
  | none =>
    rw [ho] at hw
    simp only [Prod.mk.injEq] at hw
    obtain ⟨rfl, rfl⟩ := hw
    have HO := Lib.hid ho
    clear ho
    go_enter Tryd.func13, Tryd.ntmps13
    go_upto_region 2 with (go_at_call 27; (with_reducible refine (ff_In L len HB.out.1 e _ HO.out _ HB.out.2.1 HB.out.2.2).mono ?_); rintro r1 W3 ⟨rfl, q2⟩; have HR := Lib.hid q2; clear q2)
    go_wp2_with fail
    go_ret2
    exact ⟨rfl, HR.out⟩
end Go.Proofs.YtlofcccabdocgaaDoor
