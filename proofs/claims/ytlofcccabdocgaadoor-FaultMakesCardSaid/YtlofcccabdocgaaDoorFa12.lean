/- Faults: errors.As. -/
import Derived.Test.YtlofcccabdocgaaDoorFa11
import Derived.LaidEql
import Derived.Stop.Asserts
import Derived.RowKitTokens
import Derived.Deep.LoopGhost
import Derived.Defers
import Derived.Recover
import Derived.WalkKit
import Derived.ProofKit
import Derived.Handy
import Derived.WalkLawsBesides
import Derived.WalkSpells
import Derived.Lib.Hide
import Derived.Lib.SliceRun
import Derived.Deep.RegionLaw
import Derived.RegionTactic
import Derived.ChangeAlike
import Derived.WalkSmall
import Derived.Deep.QuietTactic
import Derived.BigQuiet
import Derived.OwnWalk
import Derived.Outline
import Derived.Deep.CutRange
import Derived.Deep.CutBlock
import Derived.LoopTactic
namespace Go.Proofs.YtlofcccabdocgaaDoor
open Go.ChangeShapes Go.WideShapes Go.ChangeAt Go.RowKit
set_option linter.unusedSimpArgs false
set_option linter.unusedVariables false

open Go.Extern.Stop Go.Stop Go.Extern
theorem Blk.apart {W : World} {b c : Nat} {cs ds : List Value} {T U : TypeId} (h : Blk W b cs T) (k : Blk W c ds U) (hne : T ≠ U) : b ≠ c := fun e => by
  subst e
  have h1 : W.heap[b]? = some (.cells cs.toArray T (0, 0)) := h
  have h2 : W.heap[b]? = some (.cells ds.toArray U (0, 0)) := k
  rw [h1] at h2
  injection h2 with h2
  injection h2 with _ h3 _
  exact hne h3
set_option maxRecDepth 20000 in
set_option maxHeartbeats 16000000 in
theorem fs_AsE (L : List Wp) (len : Nat) (hl : L.length = len) (e : Int) (v : Value) (tb : Nat) (old : Value) (w : World) (HE : EV w L e v) (hg : w.cell? ⟨0, 0, none⟩ = some (.iface 92 (.agg #[.pointer (some ⟨4, 29, none⟩)]))) (ht : Blk w tb [old] 23) :
    Calls Tryd.prog 33 #[v, .iface 72 (.pointer (some ⟨tb, 0, none⟩))] w fun r w' => r = .returned (.bool true) ∧ Blk w' tb [.int .i64 e] 23 ∧ Chg [tb] w w' := by
  obtain ⟨T0, p0, rfl⟩ := HE.ne
  have h43 := @run_callFunc_extern Tryd.prog 43 _ (fun args => ReflectliteValue.unpack (args.getD 0 (.tuple #[]))) Tryd.func43 (by kernel_rfl) (by kernel_rfl) (by kernel_rfl) (by kernel_rfl)
  have h44 := @run_callFunc_extern Tryd.prog 44 _ (ReflectliteValue.methodAny (ReflectliteValue.valueError "reflectlite.Value.Type" 0) (fun t _ _ _ => ReflectliteType.toType t)) Tryd.func44 (by kernel_rfl) (by kernel_rfl) (by kernel_rfl) (by kernel_rfl)
  have h45 := @run_callFunc_extern Tryd.prog 45 _ (ReflectliteValue.method (ReflectliteValue.valueError "reflectlite.Value.IsNil" 0) ReflectliteValue.isNil) Tryd.func45 (by kernel_rfl) (by kernel_rfl) (by kernel_rfl) (by kernel_rfl)
  have h77 := @run_callFunc_extern Tryd.prog 77 _ (ReflectliteType.abiMethod fun t => do pure (.int .u8 (← Rtype.kind t))) Tryd.func77 (by kernel_rfl) (by kernel_rfl) (by kernel_rfl) (by kernel_rfl)
  have h87 := @run_callFunc_extern Tryd.prog 87 _ (ReflectliteType.method ReflectliteType.elem) Tryd.func87 (by kernel_rfl) (by kernel_rfl) (by kernel_rfl) (by kernel_rfl)
  have h88 := @run_callFunc_extern Tryd.prog 88 _ (ReflectliteType.relation "Implements" ReflectliteType.implements_) Tryd.func88 (by kernel_rfl) (by kernel_rfl) (by kernel_rfl) (by kernel_rfl)
  have f1 := rl_pvE
  have f2 := rl_ptE
  have f3 := rl_pkE
  have f4 := rl_xkE
  have f5 := rl_peE
  have f6 := rl_imE
  have mK := rl_mK
  have mE := rl_mE
  have mI := rl_mI
  obtain ⟨W2, hW2⟩ : ∃ W2, (w.alloc (.cells #[.pointer (some ⟨tb, 0, none⟩)] 72)).alloc (.cells #[.pointer (some ⟨4, 72, none⟩), .pointer (some ⟨w.heap.size, 0, none⟩), .int .u64 150] 84) = W2 := ⟨_, rfl⟩
  have k0 := (Below.refl w.heap.size w).alloc (Nat.le_refl _) (.cells #[.pointer (some ⟨tb, 0, none⟩)] 72)
  have k1 : Below w.heap.size w W2 := by rw [← hW2]; exact k0.alloc (by rw [World.size_alloc]; omega) _
  have HB : Hid (Blk W2 w.heap.size [.pointer (some ⟨tb, 0, none⟩)] 72 ∧ Blk W2 (w.heap.size + 1) [.pointer (some ⟨4, 72, none⟩), .pointer (some ⟨w.heap.size, 0, none⟩), .int .u64 150] 84 ∧ Blk W2 tb [old] 23 ∧ EV W2 L e (.iface T0 p0) ∧ Chg [tb] w W2 ∧ L.length = len) := Lib.hid ⟨by rw [← hW2]; exact (Blk.newA w #[.pointer (some ⟨tb, 0, none⟩)] 72).alloc _, by rw [← hW2]; have h := Blk.newA (w.alloc (.cells #[.pointer (some ⟨tb, 0, none⟩)] 72)) #[.pointer (some ⟨4, 72, none⟩), .pointer (some ⟨w.heap.size, 0, none⟩), .int .u64 150] 84; rw [World.size_alloc] at h; exact h, by rw [← hW2]; exact (ht.alloc _).alloc _, EV.below k1 HE, by rw [← hW2]; exact ((Chg.refl [tb] w).alloc _).alloc _, hl⟩
  have HEW := Lib.hid HE
  have klt := World.block_lt_of_cell? _ _ hg
  have g2 : W2.cell? ⟨0, 0, none⟩ = some (.iface 92 (.agg #[.pointer (some ⟨4, 29, none⟩)])) := (k1.cell klt).trans hg
  have n8 := rl_nilE ⟨w.heap.size, 0, none⟩ ⟨tb, 0, none⟩ W2 (HB.out.1.cell (i := 0) rfl)
  have y0 := HB.out.2.1.cell (i := 0) rfl
  have y1 := HB.out.2.1.cell (i := 1) rfl
  have y2 := HB.out.2.1.cell (i := 2) rfl
  clear hl HE ht k0 k1 klt
  go_enter Tryd.func33, Tryd.ntmps33
  go_upto_region 6 with fail
  clear hW2 hg
  go_wp2_with (go_at_call 46; (with_reducible refine (fs_asE L len HB.out.2.2.2.2.2 e _ tb w.heap.size old _ HB.out.2.2.2.1 (HB.out.1.cell (i := 0) rfl) HB.out.2.2.1).mono ?_); rintro r1 W3 ⟨rfl, q1, q2⟩; have HQ := Lib.hid (And.intro q1 q2); clear q1 q2)
  go_ret
  exact ⟨rfl, HQ.out.1, HB.out.2.2.2.2.1.trans HQ.out.2 (fun x hx => Or.inl hx)⟩
set_option maxRecDepth 20000 in
set_option maxHeartbeats 16000000 in
theorem fs_AsAy (L : List Wp) (len : Nat) (hl : L.length = len) (e : Int) (v : Value) (x : Wp) (ho : Fa.fst true L = some x) (tb : Nat) (old : Value) (w : World) (HE : EV w L e v) (hg : w.cell? ⟨0, 0, none⟩ = some (.iface 92 (.agg #[.pointer (some ⟨4, 29, none⟩)]))) (ht : Blk w tb [old] 46) :
    Calls Tryd.prog 33 #[v, .iface 77 (.pointer (some ⟨tb, 0, none⟩))] w fun r w' => r = .returned (.bool true) ∧ (∃ b u, Blk w' tb [.pointer (some ⟨b, 0, none⟩)] 46 ∧ Blk w' b [.int .i64 x.l, .int .i64 x.c, u] 48) ∧ Chg [tb] w w' := by
  obtain ⟨T0, p0, rfl⟩ := HE.ne
  have h43 := @run_callFunc_extern Tryd.prog 43 _ (fun args => ReflectliteValue.unpack (args.getD 0 (.tuple #[]))) Tryd.func43 (by kernel_rfl) (by kernel_rfl) (by kernel_rfl) (by kernel_rfl)
  have h44 := @run_callFunc_extern Tryd.prog 44 _ (ReflectliteValue.methodAny (ReflectliteValue.valueError "reflectlite.Value.Type" 0) (fun t _ _ _ => ReflectliteType.toType t)) Tryd.func44 (by kernel_rfl) (by kernel_rfl) (by kernel_rfl) (by kernel_rfl)
  have h45 := @run_callFunc_extern Tryd.prog 45 _ (ReflectliteValue.method (ReflectliteValue.valueError "reflectlite.Value.IsNil" 0) ReflectliteValue.isNil) Tryd.func45 (by kernel_rfl) (by kernel_rfl) (by kernel_rfl) (by kernel_rfl)
  have h77 := @run_callFunc_extern Tryd.prog 77 _ (ReflectliteType.abiMethod fun t => do pure (.int .u8 (← Rtype.kind t))) Tryd.func77 (by kernel_rfl) (by kernel_rfl) (by kernel_rfl) (by kernel_rfl)
  have h87 := @run_callFunc_extern Tryd.prog 87 _ (ReflectliteType.method ReflectliteType.elem) Tryd.func87 (by kernel_rfl) (by kernel_rfl) (by kernel_rfl) (by kernel_rfl)
  have h88 := @run_callFunc_extern Tryd.prog 88 _ (ReflectliteType.relation "Implements" ReflectliteType.implements_) Tryd.func88 (by kernel_rfl) (by kernel_rfl) (by kernel_rfl) (by kernel_rfl)
  have f1 := rl_pvA
  have f2 := rl_ptA
  have f3 := rl_pkA
  have f4 := rl_xkA
  have f5 := rl_peA
  have f6 := rl_imA
  have mK := rl_mK
  have mE := rl_mE
  have mI := rl_mI
  obtain ⟨W2, hW2⟩ : ∃ W2, (w.alloc (.cells #[.pointer (some ⟨tb, 0, none⟩)] 77)).alloc (.cells #[.pointer (some ⟨4, 77, none⟩), .pointer (some ⟨w.heap.size, 0, none⟩), .int .u64 150] 84) = W2 := ⟨_, rfl⟩
  have k0 := (Below.refl w.heap.size w).alloc (Nat.le_refl _) (.cells #[.pointer (some ⟨tb, 0, none⟩)] 77)
  have k1 : Below w.heap.size w W2 := by rw [← hW2]; exact k0.alloc (by rw [World.size_alloc]; omega) _
  have HB : Hid (Blk W2 w.heap.size [.pointer (some ⟨tb, 0, none⟩)] 77 ∧ Blk W2 (w.heap.size + 1) [.pointer (some ⟨4, 77, none⟩), .pointer (some ⟨w.heap.size, 0, none⟩), .int .u64 150] 84 ∧ Blk W2 tb [old] 46 ∧ EV W2 L e (.iface T0 p0) ∧ Chg [tb] w W2 ∧ L.length = len) := Lib.hid ⟨by rw [← hW2]; exact (Blk.newA w #[.pointer (some ⟨tb, 0, none⟩)] 77).alloc _, by rw [← hW2]; have h := Blk.newA (w.alloc (.cells #[.pointer (some ⟨tb, 0, none⟩)] 77)) #[.pointer (some ⟨4, 77, none⟩), .pointer (some ⟨w.heap.size, 0, none⟩), .int .u64 150] 84; rw [World.size_alloc] at h; exact h, by rw [← hW2]; exact (ht.alloc _).alloc _, EV.below k1 HE, by rw [← hW2]; exact ((Chg.refl [tb] w).alloc _).alloc _, hl⟩
  have HEW := Lib.hid HE
  have klt := World.block_lt_of_cell? _ _ hg
  have g2 : W2.cell? ⟨0, 0, none⟩ = some (.iface 92 (.agg #[.pointer (some ⟨4, 29, none⟩)])) := (k1.cell klt).trans hg
  have n8 := rl_nilA ⟨w.heap.size, 0, none⟩ ⟨tb, 0, none⟩ W2 (HB.out.1.cell (i := 0) rfl)
  have y0 := HB.out.2.1.cell (i := 0) rfl
  have y1 := HB.out.2.1.cell (i := 1) rfl
  have y2 := HB.out.2.1.cell (i := 2) rfl
  have HO := Lib.hid ho
  clear ho
  clear hl HE ht k0 k1 klt
  go_enter Tryd.func33, Tryd.ntmps33
  go_upto_region 6 with fail
  clear hW2 hg
  go_wp2_with (go_at_call 46; (with_reducible refine (fs_asAy L len HB.out.2.2.2.2.2 e _ x HO.out tb w.heap.size old _ HB.out.2.2.2.1 (HB.out.1.cell (i := 0) rfl) HB.out.2.2.1).mono ?_); rintro r1 W3 ⟨rfl, q1, q2⟩; have HQ := Lib.hid (And.intro q1 q2); clear q1 q2)
  go_ret
  obtain ⟨⟨b, u, q1, q2⟩, q3⟩ := HQ.out
  exact ⟨rfl, ⟨b, u, q1, q2.chg q3 (by simp; exact Blk.apart q2 HB.out.2.2.1 (by decide))⟩, HB.out.2.2.2.2.1.trans q3 (fun x hx => Or.inl hx)⟩
set_option maxRecDepth 20000 in
set_option maxHeartbeats 16000000 in
theorem fs_AsAn (L : List Wp) (len : Nat) (hl : L.length = len) (e : Int) (v : Value) (ho : Fa.fst true L = none) (tb : Nat) (old : Value) (w : World) (HE : EV w L e v) (hg : w.cell? ⟨0, 0, none⟩ = some (.iface 92 (.agg #[.pointer (some ⟨4, 29, none⟩)]))) (ht : Blk w tb [old] 46) :
    Calls Tryd.prog 33 #[v, .iface 77 (.pointer (some ⟨tb, 0, none⟩))] w fun r w' => r = .returned (.bool false) ∧ Blk w' tb [old] 46 ∧ Chg [tb] w w' := by
  obtain ⟨T0, p0, rfl⟩ := HE.ne
  have h43 := @run_callFunc_extern Tryd.prog 43 _ (fun args => ReflectliteValue.unpack (args.getD 0 (.tuple #[]))) Tryd.func43 (by kernel_rfl) (by kernel_rfl) (by kernel_rfl) (by kernel_rfl)
  have h44 := @run_callFunc_extern Tryd.prog 44 _ (ReflectliteValue.methodAny (ReflectliteValue.valueError "reflectlite.Value.Type" 0) (fun t _ _ _ => ReflectliteType.toType t)) Tryd.func44 (by kernel_rfl) (by kernel_rfl) (by kernel_rfl) (by kernel_rfl)
  have h45 := @run_callFunc_extern Tryd.prog 45 _ (ReflectliteValue.method (ReflectliteValue.valueError "reflectlite.Value.IsNil" 0) ReflectliteValue.isNil) Tryd.func45 (by kernel_rfl) (by kernel_rfl) (by kernel_rfl) (by kernel_rfl)
  have h77 := @run_callFunc_extern Tryd.prog 77 _ (ReflectliteType.abiMethod fun t => do pure (.int .u8 (← Rtype.kind t))) Tryd.func77 (by kernel_rfl) (by kernel_rfl) (by kernel_rfl) (by kernel_rfl)
  have h87 := @run_callFunc_extern Tryd.prog 87 _ (ReflectliteType.method ReflectliteType.elem) Tryd.func87 (by kernel_rfl) (by kernel_rfl) (by kernel_rfl) (by kernel_rfl)
  have h88 := @run_callFunc_extern Tryd.prog 88 _ (ReflectliteType.relation "Implements" ReflectliteType.implements_) Tryd.func88 (by kernel_rfl) (by kernel_rfl) (by kernel_rfl) (by kernel_rfl)
  have f1 := rl_pvA
  have f2 := rl_ptA
  have f3 := rl_pkA
  have f4 := rl_xkA
  have f5 := rl_peA
  have f6 := rl_imA
  have mK := rl_mK
  have mE := rl_mE
  have mI := rl_mI
  obtain ⟨W2, hW2⟩ : ∃ W2, (w.alloc (.cells #[.pointer (some ⟨tb, 0, none⟩)] 77)).alloc (.cells #[.pointer (some ⟨4, 77, none⟩), .pointer (some ⟨w.heap.size, 0, none⟩), .int .u64 150] 84) = W2 := ⟨_, rfl⟩
  have k0 := (Below.refl w.heap.size w).alloc (Nat.le_refl _) (.cells #[.pointer (some ⟨tb, 0, none⟩)] 77)
  have k1 : Below w.heap.size w W2 := by rw [← hW2]; exact k0.alloc (by rw [World.size_alloc]; omega) _
  have HB : Hid (Blk W2 w.heap.size [.pointer (some ⟨tb, 0, none⟩)] 77 ∧ Blk W2 (w.heap.size + 1) [.pointer (some ⟨4, 77, none⟩), .pointer (some ⟨w.heap.size, 0, none⟩), .int .u64 150] 84 ∧ Blk W2 tb [old] 46 ∧ EV W2 L e (.iface T0 p0) ∧ Chg [tb] w W2 ∧ L.length = len) := Lib.hid ⟨by rw [← hW2]; exact (Blk.newA w #[.pointer (some ⟨tb, 0, none⟩)] 77).alloc _, by rw [← hW2]; have h := Blk.newA (w.alloc (.cells #[.pointer (some ⟨tb, 0, none⟩)] 77)) #[.pointer (some ⟨4, 77, none⟩), .pointer (some ⟨w.heap.size, 0, none⟩), .int .u64 150] 84; rw [World.size_alloc] at h; exact h, by rw [← hW2]; exact (ht.alloc _).alloc _, EV.below k1 HE, by rw [← hW2]; exact ((Chg.refl [tb] w).alloc _).alloc _, hl⟩
  have HEW := Lib.hid HE
  have klt := World.block_lt_of_cell? _ _ hg
  have g2 : W2.cell? ⟨0, 0, none⟩ = some (.iface 92 (.agg #[.pointer (some ⟨4, 29, none⟩)])) := (k1.cell klt).trans hg
  have n8 := rl_nilA ⟨w.heap.size, 0, none⟩ ⟨tb, 0, none⟩ W2 (HB.out.1.cell (i := 0) rfl)
  have y0 := HB.out.2.1.cell (i := 0) rfl
  have y1 := HB.out.2.1.cell (i := 1) rfl
  have y2 := HB.out.2.1.cell (i := 2) rfl
  have HO := Lib.hid ho
  clear ho
  clear hl HE ht k0 k1 klt
  go_enter Tryd.func33, Tryd.ntmps33
  go_upto_region 6 with fail
  clear hW2 hg
  go_wp2_with (go_at_call 46; (with_reducible refine (fs_asAn L len HB.out.2.2.2.2.2 e _ HO.out tb w.heap.size old _ HB.out.2.2.2.1 (HB.out.1.cell (i := 0) rfl) HB.out.2.2.1).mono ?_); rintro r1 W3 ⟨rfl, q1, q2⟩; have HQ := Lib.hid (And.intro q1 q2); clear q1 q2)
  go_ret
  exact ⟨rfl, HQ.out.1, HB.out.2.2.2.2.1.trans HQ.out.2 (fun x hx => Or.inl hx)⟩
set_option maxRecDepth 20000 in
set_option maxHeartbeats 16000000 in
theorem fs_AsIy (L : List Wp) (len : Nat) (hl : L.length = len) (e : Int) (v : Value) (x : Wp) (ho : Fa.fst false L = some x) (tb : Nat) (old : Value) (w : World) (HE : EV w L e v) (hg : w.cell? ⟨0, 0, none⟩ = some (.iface 92 (.agg #[.pointer (some ⟨4, 29, none⟩)]))) (ht : Blk w tb [old] 49) :
    Calls Tryd.prog 33 #[v, .iface 78 (.pointer (some ⟨tb, 0, none⟩))] w fun r w' => r = .returned (.bool true) ∧ (∃ b u, Blk w' tb [.pointer (some ⟨b, 0, none⟩)] 49 ∧ Blk w' b [.string x.n, u] 51) ∧ Chg [tb] w w' := by
  obtain ⟨T0, p0, rfl⟩ := HE.ne
  have h43 := @run_callFunc_extern Tryd.prog 43 _ (fun args => ReflectliteValue.unpack (args.getD 0 (.tuple #[]))) Tryd.func43 (by kernel_rfl) (by kernel_rfl) (by kernel_rfl) (by kernel_rfl)
  have h44 := @run_callFunc_extern Tryd.prog 44 _ (ReflectliteValue.methodAny (ReflectliteValue.valueError "reflectlite.Value.Type" 0) (fun t _ _ _ => ReflectliteType.toType t)) Tryd.func44 (by kernel_rfl) (by kernel_rfl) (by kernel_rfl) (by kernel_rfl)
  have h45 := @run_callFunc_extern Tryd.prog 45 _ (ReflectliteValue.method (ReflectliteValue.valueError "reflectlite.Value.IsNil" 0) ReflectliteValue.isNil) Tryd.func45 (by kernel_rfl) (by kernel_rfl) (by kernel_rfl) (by kernel_rfl)
  have h77 := @run_callFunc_extern Tryd.prog 77 _ (ReflectliteType.abiMethod fun t => do pure (.int .u8 (← Rtype.kind t))) Tryd.func77 (by kernel_rfl) (by kernel_rfl) (by kernel_rfl) (by kernel_rfl)
  have h87 := @run_callFunc_extern Tryd.prog 87 _ (ReflectliteType.method ReflectliteType.elem) Tryd.func87 (by kernel_rfl) (by kernel_rfl) (by kernel_rfl) (by kernel_rfl)
  have h88 := @run_callFunc_extern Tryd.prog 88 _ (ReflectliteType.relation "Implements" ReflectliteType.implements_) Tryd.func88 (by kernel_rfl) (by kernel_rfl) (by kernel_rfl) (by kernel_rfl)
  have f1 := rl_pvI
  have f2 := rl_ptI
  have f3 := rl_pkI
  have f4 := rl_xkI
  have f5 := rl_peI
  have f6 := rl_imI
  have mK := rl_mK
  have mE := rl_mE
  have mI := rl_mI
  obtain ⟨W2, hW2⟩ : ∃ W2, (w.alloc (.cells #[.pointer (some ⟨tb, 0, none⟩)] 78)).alloc (.cells #[.pointer (some ⟨4, 78, none⟩), .pointer (some ⟨w.heap.size, 0, none⟩), .int .u64 150] 84) = W2 := ⟨_, rfl⟩
  have k0 := (Below.refl w.heap.size w).alloc (Nat.le_refl _) (.cells #[.pointer (some ⟨tb, 0, none⟩)] 78)
  have k1 : Below w.heap.size w W2 := by rw [← hW2]; exact k0.alloc (by rw [World.size_alloc]; omega) _
  have HB : Hid (Blk W2 w.heap.size [.pointer (some ⟨tb, 0, none⟩)] 78 ∧ Blk W2 (w.heap.size + 1) [.pointer (some ⟨4, 78, none⟩), .pointer (some ⟨w.heap.size, 0, none⟩), .int .u64 150] 84 ∧ Blk W2 tb [old] 49 ∧ EV W2 L e (.iface T0 p0) ∧ Chg [tb] w W2 ∧ L.length = len) := Lib.hid ⟨by rw [← hW2]; exact (Blk.newA w #[.pointer (some ⟨tb, 0, none⟩)] 78).alloc _, by rw [← hW2]; have h := Blk.newA (w.alloc (.cells #[.pointer (some ⟨tb, 0, none⟩)] 78)) #[.pointer (some ⟨4, 78, none⟩), .pointer (some ⟨w.heap.size, 0, none⟩), .int .u64 150] 84; rw [World.size_alloc] at h; exact h, by rw [← hW2]; exact (ht.alloc _).alloc _, EV.below k1 HE, by rw [← hW2]; exact ((Chg.refl [tb] w).alloc _).alloc _, hl⟩
  have HEW := Lib.hid HE
  have klt := World.block_lt_of_cell? _ _ hg
  have g2 : W2.cell? ⟨0, 0, none⟩ = some (.iface 92 (.agg #[.pointer (some ⟨4, 29, none⟩)])) := (k1.cell klt).trans hg
  have n8 := rl_nilI ⟨w.heap.size, 0, none⟩ ⟨tb, 0, none⟩ W2 (HB.out.1.cell (i := 0) rfl)
  have y0 := HB.out.2.1.cell (i := 0) rfl
  have y1 := HB.out.2.1.cell (i := 1) rfl
  have y2 := HB.out.2.1.cell (i := 2) rfl
  have HO := Lib.hid ho
  clear ho
  clear hl HE ht k0 k1 klt
  go_enter Tryd.func33, Tryd.ntmps33
  go_upto_region 6 with fail
  clear hW2 hg
  go_wp2_with (go_at_call 46; (with_reducible refine (fs_asIy L len HB.out.2.2.2.2.2 e _ x HO.out tb w.heap.size old _ HB.out.2.2.2.1 (HB.out.1.cell (i := 0) rfl) HB.out.2.2.1).mono ?_); rintro r1 W3 ⟨rfl, q1, q2⟩; have HQ := Lib.hid (And.intro q1 q2); clear q1 q2)
  go_ret
  obtain ⟨⟨b, u, q1, q2⟩, q3⟩ := HQ.out
  exact ⟨rfl, ⟨b, u, q1, q2.chg q3 (by simp; exact Blk.apart q2 HB.out.2.2.1 (by decide))⟩, HB.out.2.2.2.2.1.trans q3 (fun x hx => Or.inl hx)⟩
set_option maxRecDepth 20000 in
set_option maxHeartbeats 16000000 in
theorem fs_AsIn (L : List Wp) (len : Nat) (hl : L.length = len) (e : Int) (v : Value) (ho : Fa.fst false L = none) (tb : Nat) (old : Value) (w : World) (HE : EV w L e v) (hg : w.cell? ⟨0, 0, none⟩ = some (.iface 92 (.agg #[.pointer (some ⟨4, 29, none⟩)]))) (ht : Blk w tb [old] 49) :
    Calls Tryd.prog 33 #[v, .iface 78 (.pointer (some ⟨tb, 0, none⟩))] w fun r w' => r = .returned (.bool false) ∧ Blk w' tb [old] 49 ∧ Chg [tb] w w' := by
  obtain ⟨T0, p0, rfl⟩ := HE.ne
  have h43 := @run_callFunc_extern Tryd.prog 43 _ (fun args => ReflectliteValue.unpack (args.getD 0 (.tuple #[]))) Tryd.func43 (by kernel_rfl) (by kernel_rfl) (by kernel_rfl) (by kernel_rfl)
  have h44 := @run_callFunc_extern Tryd.prog 44 _ (ReflectliteValue.methodAny (ReflectliteValue.valueError "reflectlite.Value.Type" 0) (fun t _ _ _ => ReflectliteType.toType t)) Tryd.func44 (by kernel_rfl) (by kernel_rfl) (by kernel_rfl) (by kernel_rfl)
  have h45 := @run_callFunc_extern Tryd.prog 45 _ (ReflectliteValue.method (ReflectliteValue.valueError "reflectlite.Value.IsNil" 0) ReflectliteValue.isNil) Tryd.func45 (by kernel_rfl) (by kernel_rfl) (by kernel_rfl) (by kernel_rfl)
  have h77 := @run_callFunc_extern Tryd.prog 77 _ (ReflectliteType.abiMethod fun t => do pure (.int .u8 (← Rtype.kind t))) Tryd.func77 (by kernel_rfl) (by kernel_rfl) (by kernel_rfl) (by kernel_rfl)
  have h87 := @run_callFunc_extern Tryd.prog 87 _ (ReflectliteType.method ReflectliteType.elem) Tryd.func87 (by kernel_rfl) (by kernel_rfl) (by kernel_rfl) (by kernel_rfl)
  have h88 := @run_callFunc_extern Tryd.prog 88 _ (ReflectliteType.relation "Implements" ReflectliteType.implements_) Tryd.func88 (by kernel_rfl) (by kernel_rfl) (by kernel_rfl) (by kernel_rfl)
  have f1 := rl_pvI
  have f2 := rl_ptI
  have f3 := rl_pkI
  have f4 := rl_xkI
  have f5 := rl_peI
  have f6 := rl_imI
  have mK := rl_mK
  have mE := rl_mE
  have mI := rl_mI
  obtain ⟨W2, hW2⟩ : ∃ W2, (w.alloc (.cells #[.pointer (some ⟨tb, 0, none⟩)] 78)).alloc (.cells #[.pointer (some ⟨4, 78, none⟩), .pointer (some ⟨w.heap.size, 0, none⟩), .int .u64 150] 84) = W2 := ⟨_, rfl⟩
  have k0 := (Below.refl w.heap.size w).alloc (Nat.le_refl _) (.cells #[.pointer (some ⟨tb, 0, none⟩)] 78)
  have k1 : Below w.heap.size w W2 := by rw [← hW2]; exact k0.alloc (by rw [World.size_alloc]; omega) _
  have HB : Hid (Blk W2 w.heap.size [.pointer (some ⟨tb, 0, none⟩)] 78 ∧ Blk W2 (w.heap.size + 1) [.pointer (some ⟨4, 78, none⟩), .pointer (some ⟨w.heap.size, 0, none⟩), .int .u64 150] 84 ∧ Blk W2 tb [old] 49 ∧ EV W2 L e (.iface T0 p0) ∧ Chg [tb] w W2 ∧ L.length = len) := Lib.hid ⟨by rw [← hW2]; exact (Blk.newA w #[.pointer (some ⟨tb, 0, none⟩)] 78).alloc _, by rw [← hW2]; have h := Blk.newA (w.alloc (.cells #[.pointer (some ⟨tb, 0, none⟩)] 78)) #[.pointer (some ⟨4, 78, none⟩), .pointer (some ⟨w.heap.size, 0, none⟩), .int .u64 150] 84; rw [World.size_alloc] at h; exact h, by rw [← hW2]; exact (ht.alloc _).alloc _, EV.below k1 HE, by rw [← hW2]; exact ((Chg.refl [tb] w).alloc _).alloc _, hl⟩
  have HEW := Lib.hid HE
  have klt := World.block_lt_of_cell? _ _ hg
  have g2 : W2.cell? ⟨0, 0, none⟩ = some (.iface 92 (.agg #[.pointer (some ⟨4, 29, none⟩)])) := (k1.cell klt).trans hg
  have n8 := rl_nilI ⟨w.heap.size, 0, none⟩ ⟨tb, 0, none⟩ W2 (HB.out.1.cell (i := 0) rfl)
  have y0 := HB.out.2.1.cell (i := 0) rfl
  have y1 := HB.out.2.1.cell (i := 1) rfl
  have y2 := HB.out.2.1.cell (i := 2) rfl
  have HO := Lib.hid ho
  clear ho
  clear hl HE ht k0 k1 klt
  go_enter Tryd.func33, Tryd.ntmps33
  go_upto_region 6 with fail
  clear hW2 hg
  go_wp2_with (go_at_call 46; (with_reducible refine (fs_asIn L len HB.out.2.2.2.2.2 e _ HO.out tb w.heap.size old _ HB.out.2.2.2.1 (HB.out.1.cell (i := 0) rfl) HB.out.2.2.1).mono ?_); rintro r1 W3 ⟨rfl, q1, q2⟩; have HQ := Lib.hid (And.intro q1 q2); clear q1 q2)
  go_ret
  exact ⟨rfl, HQ.out.1, HB.out.2.2.2.2.1.trans HQ.out.2 (fun x hx => Or.inl hx)⟩
end Go.Proofs.YtlofcccabdocgaaDoor
