/- Faults: the first error of a type. -/
import Derived.Test.YtlofcccabdocgaaDoorFa12
import Derived.LaidEql
import Derived.Stop.Asserts
import Derived.RowKitTokens
import Derived.Deep.LoopGhost
import Derived.Defers
import Derived.Recover
import Derived.WalkKit
import Derived.ProofKit
import Derived.Handy
import Derived.WalkLawsBesides
import Derived.WalkSpells
import Derived.Lib.Hide
import Derived.Lib.SliceRun
import Derived.Deep.RegionLaw
import Derived.RegionTactic
import Derived.ChangeAlike
import Derived.WalkSmall
import Derived.Deep.QuietTactic
import Derived.BigQuiet
import Derived.OwnWalk
import Derived.Outline
import Derived.Deep.CutRange
import Derived.Deep.CutBlock
import Derived.LoopTactic
namespace Go.Proofs.YtlofcccabdocgaaDoor
open Go.ChangeShapes Go.WideShapes Go.ChangeAt Go.RowKit
set_option linter.unusedSimpArgs false
set_option linter.unusedVariables false

open Go.Extern.Stop Go.Stop Go.Extern
theorem fe_idleE (w : World) : CallsD Tryd.prog 32 #[] .returning w fun e u' w' => e = .returned (.tuple #[]) ∧ u' = .returning ∧ w' = w := by
  refine callsD_of_wpS Tryd.func32 rfl fun c₀ cs hu => ?_
  apply wpS_region
  simp [wpOpsS, go_sem, recoverD, hu, Tryd.ntmps32, Exit.thenS, bodyPostS, results, Tryd.results32]
  cases c₀
  simp_all
theorem fe_idleA (w : World) : CallsD Tryd.prog 36 #[] .returning w fun e u' w' => e = .returned (.tuple #[]) ∧ u' = .returning ∧ w' = w := by
  refine callsD_of_wpS Tryd.func36 rfl fun c₀ cs hu => ?_
  apply wpS_region
  simp [wpOpsS, go_sem, recoverD, hu, Tryd.ntmps36, Exit.thenS, bodyPostS, results, Tryd.results36]
  cases c₀
  simp_all
theorem fe_idleI (w : World) : CallsD Tryd.prog 37 #[] .returning w fun e u' w' => e = .returned (.tuple #[]) ∧ u' = .returning ∧ w' = w := by
  refine callsD_of_wpS Tryd.func37 rfl fun c₀ cs hu => ?_
  apply wpS_region
  simp [wpOpsS, go_sem, recoverD, hu, Tryd.ntmps37, Exit.thenS, bodyPostS, results, Tryd.results37]
  cases c₀
  simp_all
set_option maxRecDepth 20000 in
set_option maxHeartbeats 16000000 in
theorem ff_E (L : List Wp) (len : Nat) (hl : L.length = len) (e : Int) (v : Value) (w : World) (HE : EV w L e v) (hg : w.cell? ⟨0, 0, none⟩ = some (.iface 92 (.agg #[.pointer (some ⟨4, 29, none⟩)]))) :
    Calls Tryd.prog 23 #[v] w fun r w' => r = .returned (.tuple #[.int .i64 e, .bool true]) ∧ Below w.heap.size w w' := by
  have hmf : ∀ (fn : Fn) (first cap : Array Value) (w : World), (Instr.makeFunc fn first cap).run Tryd.prog w = .ok (.func fn first cap) w := fun _ _ _ _ => rfl
  obtain ⟨T0, p0, rfl⟩ := HE.ne
  obtain ⟨W1, hW1⟩ : ∃ W1, w.alloc (.cells #[.int .i64 0] 23) = W1 := ⟨_, rfl⟩
  have k1 : Below w.heap.size w W1 := by rw [← hW1]; exact (Below.refl _ _).alloc (Nat.le_refl _) _
  have klt := World.block_lt_of_cell? _ _ hg
  have HB : Hid (L.length = len ∧ EV W1 L e (.iface T0 p0) ∧ W1.cell? ⟨0, 0, none⟩ = some (.iface 92 (.agg #[.pointer (some ⟨4, 29, none⟩)])) ∧ Blk W1 w.heap.size [.int .i64 0] 23 ∧ Below w.heap.size w W1) := Lib.hid ⟨hl, EV.below k1 HE, (k1.cell klt).trans hg, by rw [← hW1]; exact Blk.newA _ _ _, k1⟩
  clear hl HE hg k1 klt
  go_enter_defers Tryd.func23, Tryd.ntmps23
  go_upto_region 3 with fail
  clear hW1
  go_upto_region 4 with (go_at_call 33; (with_reducible refine (fs_AsE L len HB.out.1 e _ w.heap.size _ _ HB.out.2.1 HB.out.2.2.1 HB.out.2.2.2.1).mono ?_); rintro r1 W3 ⟨rfl, q1, q2⟩; have HQ := Lib.hid (And.intro q1 q2); clear q1 q2)
  have d0 := HQ.out.1.cell (i := 0) rfl
  have HZ : Hid (Below w.heap.size w W3) := Lib.hid (HB.out.2.2.2.2.trans (HQ.out.2.below HB.out.2.2.2.2.size (by intro y hy; simp at hy; omega)))
  go_wp2
  refine leaves_cons (f := 32) (args := #[]) (by simp) (by simp [go_sem]) ?_
  refine (fe_idleE _).mono ?_
  rintro e' u' w'' ⟨rfl, rfl, rfl⟩
  simp [Leaves, settle, results, Tryd.results23, go_sem]
  exact HZ.out
set_option maxRecDepth 20000 in
set_option maxHeartbeats 16000000 in
theorem ff_Ay (L : List Wp) (len : Nat) (hl : L.length = len) (e : Int) (v : Value) (x : Wp) (ho : Fa.fst true L = some x) (w : World) (HE : EV w L e v) (hg : w.cell? ⟨0, 0, none⟩ = some (.iface 92 (.agg #[.pointer (some ⟨4, 29, none⟩)]))) :
    Calls Tryd.prog 26 #[v] w fun r w' => ∃ b u, r = .returned (.tuple #[.pointer (some ⟨b, 0, none⟩), .bool true]) ∧ Blk w' b [.int .i64 x.l, .int .i64 x.c, u] 48 ∧ Below w.heap.size w w' := by
  have hmf : ∀ (fn : Fn) (first cap : Array Value) (w : World), (Instr.makeFunc fn first cap).run Tryd.prog w = .ok (.func fn first cap) w := fun _ _ _ _ => rfl
  obtain ⟨T0, p0, rfl⟩ := HE.ne
  obtain ⟨W1, hW1⟩ : ∃ W1, w.alloc (.cells #[.pointer none] 46) = W1 := ⟨_, rfl⟩
  have k1 : Below w.heap.size w W1 := by rw [← hW1]; exact (Below.refl _ _).alloc (Nat.le_refl _) _
  have klt := World.block_lt_of_cell? _ _ hg
  have HB : Hid (L.length = len ∧ EV W1 L e (.iface T0 p0) ∧ W1.cell? ⟨0, 0, none⟩ = some (.iface 92 (.agg #[.pointer (some ⟨4, 29, none⟩)])) ∧ Blk W1 w.heap.size [.pointer none] 46 ∧ Below w.heap.size w W1) := Lib.hid ⟨hl, EV.below k1 HE, (k1.cell klt).trans hg, by rw [← hW1]; exact Blk.newA _ _ _, k1⟩
  have HO := Lib.hid ho
  clear ho
  clear hl HE hg k1 klt
  go_enter_defers Tryd.func26, Tryd.ntmps26
  go_upto_region 3 with fail
  clear hW1
  go_upto_region 4 with (go_at_call 33; (with_reducible refine (fs_AsAy L len HB.out.1 e _ x HO.out w.heap.size _ _ HB.out.2.1 HB.out.2.2.1 HB.out.2.2.2.1).mono ?_); rintro r1 W3 ⟨rfl, q1, q2⟩; have HQ := Lib.hid (And.intro q1 q2); clear q1 q2)
  obtain ⟨⟨b, u, q1, q2⟩, q3⟩ := HQ.out
  have HR := Lib.hid (And.intro q1 (And.intro q2 q3))
  clear q1 q2 q3 HQ
  have d0 := HR.out.1.cell (i := 0) rfl
  have HZ : Hid (Below w.heap.size w W3) := Lib.hid (HB.out.2.2.2.2.trans (HR.out.2.2.below HB.out.2.2.2.2.size (by intro y hy; simp at hy; omega)))
  go_wp2
  refine leaves_cons (f := 36) (args := #[]) (by simp) (by simp [go_sem]) ?_
  refine (fe_idleA _).mono ?_
  rintro e' u' w'' ⟨rfl, rfl, rfl⟩
  simp [Leaves, settle, results, Tryd.results26, go_sem]
  exact ⟨⟨u, HR.out.2.1⟩, HZ.out⟩
set_option maxRecDepth 20000 in
set_option maxHeartbeats 16000000 in
theorem ff_An (L : List Wp) (len : Nat) (hl : L.length = len) (e : Int) (v : Value) (ho : Fa.fst true L = none) (w : World) (HE : EV w L e v) (hg : w.cell? ⟨0, 0, none⟩ = some (.iface 92 (.agg #[.pointer (some ⟨4, 29, none⟩)]))) :
    Calls Tryd.prog 26 #[v] w fun r w' => r = .returned (.tuple #[.pointer none, .bool false]) ∧ Below w.heap.size w w' := by
  have hmf : ∀ (fn : Fn) (first cap : Array Value) (w : World), (Instr.makeFunc fn first cap).run Tryd.prog w = .ok (.func fn first cap) w := fun _ _ _ _ => rfl
  obtain ⟨T0, p0, rfl⟩ := HE.ne
  obtain ⟨W1, hW1⟩ : ∃ W1, w.alloc (.cells #[.pointer none] 46) = W1 := ⟨_, rfl⟩
  have k1 : Below w.heap.size w W1 := by rw [← hW1]; exact (Below.refl _ _).alloc (Nat.le_refl _) _
  have klt := World.block_lt_of_cell? _ _ hg
  have HB : Hid (L.length = len ∧ EV W1 L e (.iface T0 p0) ∧ W1.cell? ⟨0, 0, none⟩ = some (.iface 92 (.agg #[.pointer (some ⟨4, 29, none⟩)])) ∧ Blk W1 w.heap.size [.pointer none] 46 ∧ Below w.heap.size w W1) := Lib.hid ⟨hl, EV.below k1 HE, (k1.cell klt).trans hg, by rw [← hW1]; exact Blk.newA _ _ _, k1⟩
  have HO := Lib.hid ho
  clear ho
  clear hl HE hg k1 klt
  go_enter_defers Tryd.func26, Tryd.ntmps26
  go_upto_region 3 with fail
  clear hW1
  go_upto_region 4 with (go_at_call 33; (with_reducible refine (fs_AsAn L len HB.out.1 e _ HO.out w.heap.size _ _ HB.out.2.1 HB.out.2.2.1 HB.out.2.2.2.1).mono ?_); rintro r1 W3 ⟨rfl, q1, q2⟩; have HQ := Lib.hid (And.intro q1 q2); clear q1 q2)
  have d0 := HQ.out.1.cell (i := 0) rfl
  have HZ : Hid (Below w.heap.size w W3) := Lib.hid (HB.out.2.2.2.2.trans (HQ.out.2.below HB.out.2.2.2.2.size (by intro y hy; simp at hy; omega)))
  go_wp2
  refine leaves_cons (f := 36) (args := #[]) (by simp) (by simp [go_sem]) ?_
  refine (fe_idleA _).mono ?_
  rintro e' u' w'' ⟨rfl, rfl, rfl⟩
  simp [Leaves, settle, results, Tryd.results26, go_sem]
  exact HZ.out
set_option maxRecDepth 20000 in
set_option maxHeartbeats 16000000 in
theorem ff_Iy (L : List Wp) (len : Nat) (hl : L.length = len) (e : Int) (v : Value) (x : Wp) (ho : Fa.fst false L = some x) (w : World) (HE : EV w L e v) (hg : w.cell? ⟨0, 0, none⟩ = some (.iface 92 (.agg #[.pointer (some ⟨4, 29, none⟩)]))) :
    Calls Tryd.prog 27 #[v] w fun r w' => ∃ b u, r = .returned (.tuple #[.pointer (some ⟨b, 0, none⟩), .bool true]) ∧ Blk w' b [.string x.n, u] 51 ∧ Below w.heap.size w w' := by
  have hmf : ∀ (fn : Fn) (first cap : Array Value) (w : World), (Instr.makeFunc fn first cap).run Tryd.prog w = .ok (.func fn first cap) w := fun _ _ _ _ => rfl
  obtain ⟨T0, p0, rfl⟩ := HE.ne
  obtain ⟨W1, hW1⟩ : ∃ W1, w.alloc (.cells #[.pointer none] 49) = W1 := ⟨_, rfl⟩
  have k1 : Below w.heap.size w W1 := by rw [← hW1]; exact (Below.refl _ _).alloc (Nat.le_refl _) _
  have klt := World.block_lt_of_cell? _ _ hg
  have HB : Hid (L.length = len ∧ EV W1 L e (.iface T0 p0) ∧ W1.cell? ⟨0, 0, none⟩ = some (.iface 92 (.agg #[.pointer (some ⟨4, 29, none⟩)])) ∧ Blk W1 w.heap.size [.pointer none] 49 ∧ Below w.heap.size w W1) := Lib.hid ⟨hl, EV.below k1 HE, (k1.cell klt).trans hg, by rw [← hW1]; exact Blk.newA _ _ _, k1⟩
  have HO := Lib.hid ho
  clear ho
  clear hl HE hg k1 klt
  go_enter_defers Tryd.func27, Tryd.ntmps27
  go_upto_region 3 with fail
  clear hW1
  go_upto_region 4 with (go_at_call 33; (with_reducible refine (fs_AsIy L len HB.out.1 e _ x HO.out w.heap.size _ _ HB.out.2.1 HB.out.2.2.1 HB.out.2.2.2.1).mono ?_); rintro r1 W3 ⟨rfl, q1, q2⟩; have HQ := Lib.hid (And.intro q1 q2); clear q1 q2)
  obtain ⟨⟨b, u, q1, q2⟩, q3⟩ := HQ.out
  have HR := Lib.hid (And.intro q1 (And.intro q2 q3))
  clear q1 q2 q3 HQ
  have d0 := HR.out.1.cell (i := 0) rfl
  have HZ : Hid (Below w.heap.size w W3) := Lib.hid (HB.out.2.2.2.2.trans (HR.out.2.2.below HB.out.2.2.2.2.size (by intro y hy; simp at hy; omega)))
  go_wp2
  refine leaves_cons (f := 37) (args := #[]) (by simp) (by simp [go_sem]) ?_
  refine (fe_idleI _).mono ?_
  rintro e' u' w'' ⟨rfl, rfl, rfl⟩
  simp [Leaves, settle, results, Tryd.results27, go_sem]
  exact ⟨⟨u, HR.out.2.1⟩, HZ.out⟩
set_option maxRecDepth 20000 in
set_option maxHeartbeats 16000000 in
theorem ff_In (L : List Wp) (len : Nat) (hl : L.length = len) (e : Int) (v : Value) (ho : Fa.fst false L = none) (w : World) (HE : EV w L e v) (hg : w.cell? ⟨0, 0, none⟩ = some (.iface 92 (.agg #[.pointer (some ⟨4, 29, none⟩)]))) :
    Calls Tryd.prog 27 #[v] w fun r w' => r = .returned (.tuple #[.pointer none, .bool false]) ∧ Below w.heap.size w w' := by
  have hmf : ∀ (fn : Fn) (first cap : Array Value) (w : World), (Instr.makeFunc fn first cap).run Tryd.prog w = .ok (.func fn first cap) w := fun _ _ _ _ => rfl
  obtain ⟨T0, p0, rfl⟩ := HE.ne
  obtain ⟨W1, hW1⟩ : ∃ W1, w.alloc (.cells #[.pointer none] 49) = W1 := ⟨_, rfl⟩
  have k1 : Below w.heap.size w W1 := by rw [← hW1]; exact (Below.refl _ _).alloc (Nat.le_refl _) _
  have klt := World.block_lt_of_cell? _ _ hg
  have HB : Hid (L.length = len ∧ EV W1 L e (.iface T0 p0) ∧ W1.cell? ⟨0, 0, none⟩ = some (.iface 92 (.agg #[.pointer (some ⟨4, 29, none⟩)])) ∧ Blk W1 w.heap.size [.pointer none] 49 ∧ Below w.heap.size w W1) := Lib.hid ⟨hl, EV.below k1 HE, (k1.cell klt).trans hg, by rw [← hW1]; exact Blk.newA _ _ _, k1⟩
  have HO := Lib.hid ho
  clear ho
  clear hl HE hg k1 klt
  go_enter_defers Tryd.func27, Tryd.ntmps27
  go_upto_region 3 with fail
  clear hW1
  go_upto_region 4 with (go_at_call 33; (with_reducible refine (fs_AsIn L len HB.out.1 e _ HO.out w.heap.size _ _ HB.out.2.1 HB.out.2.2.1 HB.out.2.2.2.1).mono ?_); rintro r1 W3 ⟨rfl, q1, q2⟩; have HQ := Lib.hid (And.intro q1 q2); clear q1 q2)
  have d0 := HQ.out.1.cell (i := 0) rfl
  have HZ : Hid (Below w.heap.size w W3) := Lib.hid (HB.out.2.2.2.2.trans (HQ.out.2.below HB.out.2.2.2.2.size (by intro y hy; simp at hy; omega)))
  go_wp2
  refine leaves_cons (f := 37) (args := #[]) (by simp) (by simp [go_sem]) ?_
  refine (fe_idleI _).mono ?_
  rintro e' u' w'' ⟨rfl, rfl, rfl⟩
  simp [Leaves, settle, results, Tryd.results27, go_sem]
  exact HZ.out
end Go.Proofs.YtlofcccabdocgaaDoor
