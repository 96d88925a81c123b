/- Faults: errors.as. -/
import Derived.Test.YtlofcccabdocgaaDoorFa10
import Derived.LaidEql
import Derived.Stop.Asserts
import Derived.RowKitTokens
import Derived.Deep.LoopGhost
import Derived.Defers
import Derived.Recover
import Derived.WalkKit
import Derived.ProofKit
import Derived.Handy
import Derived.WalkLawsBesides
import Derived.WalkSpells
import Derived.Lib.Hide
import Derived.Lib.SliceRun
import Derived.Deep.RegionLaw
import Derived.RegionTactic
import Derived.ChangeAlike
import Derived.WalkSmall
import Derived.Deep.QuietTactic
import Derived.BigQuiet
import Derived.OwnWalk
import Derived.Outline
import Derived.Deep.CutRange
import Derived.Deep.CutBlock
import Derived.LoopTactic
namespace Go.Proofs.YtlofcccabdocgaaDoor
open Go.ChangeShapes Go.WideShapes Go.ChangeAt Go.RowKit
set_option linter.unusedSimpArgs false
set_option linter.unusedVariables false

open Go.Extern.Stop Go.Stop Go.Extern
/-- The first wrap of a kind. -/
def Fa.fst (c : Bool) : List Wp → Option Wp
  | [] => none
  | x :: r => if x.a = c then some x else Fa.fst c r
set_option maxRecDepth 20000 in
set_option maxHeartbeats 16000000 in
theorem fs_asE (L : List Wp) (len : Nat) (hl : L.length = len) (e : Int) (v : Value) (tb a0 : Nat) (old : Value) (w : World) (HE : EV w L e v) (ha : w.cell? ⟨a0, 0, none⟩ = some (.pointer (some ⟨tb, 0, none⟩))) (ht : Blk w tb [old] 23) :
    Calls Tryd.prog 46 #[v, .iface 72 (.pointer (some ⟨tb, 0, none⟩)), .agg #[.pointer (some ⟨4, 72, none⟩), .pointer (some ⟨a0, 0, none⟩), .int .u64 150], .iface 92 (.agg #[.pointer (some ⟨4, 23, none⟩)])] w fun r w' => r = .returned (.bool true) ∧ Blk w' tb [.int .i64 e] 23 ∧ Chg [tb] w w' := by
  obtain ⟨T0, p0, rfl⟩ := HE.ne
  have h34 := @run_callFunc_extern Tryd.prog 34 _ (ReflectliteType.typeOf) Tryd.func34 (by kernel_rfl) (by kernel_rfl) (by kernel_rfl) (by kernel_rfl)
  have h85 := @run_callFunc_extern Tryd.prog 85 _ (ReflectliteType.relation "AssignableTo" ReflectliteType.assignableTo) Tryd.func85 (by kernel_rfl) (by kernel_rfl) (by kernel_rfl) (by kernel_rfl)
  have h49 := @run_callFunc_extern Tryd.prog 49 _ (ReflectliteValue.method (ReflectliteValue.valueError "reflectlite.Value.Elem" 0) ReflectliteValue.elem) Tryd.func49 (by kernel_rfl) (by kernel_rfl) (by kernel_rfl) (by kernel_rfl)
  have h43 := @run_callFunc_extern Tryd.prog 43 _ (fun args => ReflectliteValue.unpack (args.getD 0 (.tuple #[]))) Tryd.func43 (by kernel_rfl) (by kernel_rfl) (by kernel_rfl) (by kernel_rfl)
  have h50 := @run_callFunc_extern Tryd.prog 50 _ (ReflectliteValue.set) Tryd.func50 (by kernel_rfl) (by kernel_rfl) (by kernel_rfl) (by kernel_rfl)
  have mA := rl_mA
  have HL : Hid (L.length = len ∧ EV w (L.drop 0) e (.iface T0 p0)) := Lib.hid ⟨hl, HE⟩
  obtain ⟨W1, hW1⟩ : ∃ W1, w.alloc (.cells #[.pointer (some ⟨4, 72, none⟩), .pointer (some ⟨a0, 0, none⟩), .int .u64 150] 84) = W1 := ⟨_, rfl⟩
  have ka : a0 < w.heap.size := by have := World.block_lt_of_cell? _ _ ha; exact this
  have HA : Hid (W1.cell? ⟨a0, 0, none⟩ = some (.pointer (some ⟨tb, 0, none⟩))) := Lib.hid (by rw [← hW1]; exact (((Below.refl _ _).alloc (Nat.le_refl _) _).cell ka).trans ha)
  have HT : Hid (Blk W1 tb [old] 23) := Lib.hid (by rw [← hW1]; exact ht.alloc _)
  have HX : Hid (Blk W1 w.heap.size [.pointer (some ⟨4, 72, none⟩), .pointer (some ⟨a0, 0, none⟩), .int .u64 150] 84) := Lib.hid (by rw [← hW1]; exact Blk.newA _ _ _)
  have HC : Hid (Chg [tb] w W1) := Lib.hid (by rw [← hW1]; exact (Chg.refl [tb] w).alloc _)
  clear hl HE ha ht ka
  go_enter Tryd.func46, Tryd.ntmps46
  go_upto_region 1 with fail
  go_loopg [0, 9, 10, 11, 12, 14, 15] len (fun k v _ _ _ _ _ _ wr => wr = W1 ∧ ∃ (j : Nat) (T : TypeId) (p : Value), v = .iface T p ∧ j + k = len ∧ Hid (EV w (L.drop j) e (.iface T p)))
  case atStart => exact ⟨by first | exact hW1 | rfl, 0, T0, p0, rfl, by omega, Lib.hid HL.out.2⟩
  case round =>
    obtain ⟨hwr, j, T, p, rfl, hj, HB⟩ := hrel
    subst hwr
    by_cases hjl : j < len
    · obtain ⟨ba, ln, co, nm, es⟩ : ∃ ba ln co nm, L[j]? = some ⟨ba, ln, co, nm⟩ := ⟨_, _, _, _, List.getElem?_eq_getElem (by rw [HL.out.1]; exact hjl)⟩
      have hE := HB.out
      rw [drop_at es] at hE
      obtain ⟨b', u, hE2, hW⟩ := hE
      obtain ⟨T2, q2, rfl⟩ := hE2.ne
      dsimp only at hW
      have HE2 := Lib.hid hE2
      have HDR := Lib.hid (drop_at es)
      clear es hE2
      rcases hW with ⟨rfl, hv, hk⟩ | ⟨rfl, hv, hk⟩
      · injection hv with hv1 hv2
        subst hv1 hv2
        have HK := Lib.hid (hk.alloc (.cells #[.pointer (some ⟨4, 72, none⟩), .pointer (some ⟨a0, 0, none⟩), .int .u64 150] 84))
        clear hk
        rw [hW1] at HK
        have n0 := rl_typeA
        have n1 := rl_asAE
        have n2 := rl_noAsA (.pointer (some ⟨b', 0, none⟩)) 29 wr
        have n3 := fe_unA (.pointer (some ⟨b', 0, none⟩)) 29 wr
        have n4 := fe_mA (.pointer (some ⟨b', 0, none⟩)) wr
        clear hW1
        go_wp2_with (go_at_call 21; (with_reducible refine (fe_unwrapA b' ln co (.iface T2 q2) _ HK.out).mono ?_); rintro r1 W3 ⟨rfl, rfl⟩)
        go_roundg (len - (j + 1))
        case measure => omega
        case rel => exact ⟨rfl, j + 1, T2, q2, rfl, by omega, Lib.hid HE2.out⟩
      · injection hv with hv1 hv2
        subst hv1 hv2
        have HK := Lib.hid (hk.alloc (.cells #[.pointer (some ⟨4, 72, none⟩), .pointer (some ⟨a0, 0, none⟩), .int .u64 150] 84))
        clear hk
        rw [hW1] at HK
        have n0 := rl_typeI
        have n1 := rl_asIE
        have n2 := rl_noAsI (.pointer (some ⟨b', 0, none⟩)) 29 wr
        have n3 := fe_unI (.pointer (some ⟨b', 0, none⟩)) 29 wr
        have n4 := fe_mI (.pointer (some ⟨b', 0, none⟩)) wr
        clear hW1
        go_wp2_with (go_at_call 22; (with_reducible refine (fe_unwrapI b' nm (.iface T2 q2) _ HK.out).mono ?_); rintro r1 W3 ⟨rfl, rfl⟩)
        go_roundg (len - (j + 1))
        case measure => omega
        case rel => exact ⟨rfl, j + 1, T2, q2, rfl, by omega, Lib.hid HE2.out⟩
    · obtain rfl : j = len := by omega
      have hE := HB.out
      rw [List.drop_eq_nil_of_le (by rw [HL.out.1]; exact Nat.le_refl _)] at hE
      have hE' : (Value.iface T p) = .iface 23 (.int .i64 e) := hE
      injection hE' with hv1 hv2
      subst hv1 hv2
      clear hE
      have n0 := rl_typeE
      have n1 := rl_asEE
      have n2 := rl_elE ⟨a0, 0, none⟩ ⟨tb, 0, none⟩ wr HA.out
      have n3 := rl_xvE
      have HW2 : Hid (Blk (wr.alloc (.cells #[.int .i64 e] 23)) tb [old] 23 ∧ (wr.alloc (.cells #[.int .i64 e] 23)).cell? ⟨wr.heap.size, 0, none⟩ = some (.int .i64 e)) := Lib.hid ⟨HT.out.alloc _, (Blk.newA wr #[.int .i64 e] 23).cell (i := 0) rfl⟩
      have n4 := rl_setE ⟨tb, 0, none⟩ ⟨wr.heap.size, 0, none⟩ e old (wr.alloc (.cells #[.int .i64 e] 23)) HW2.out.2 (HW2.out.1.cell (i := 0) rfl) (HW2.out.1.free 0)
      have y0 := HX.out.cell (i := 0) rfl
      have y1 := HX.out.cell (i := 1) rfl
      have y2 := HX.out.cell (i := 2) rfl
      have HZ : Hid (Blk ((wr.alloc (.cells #[.int .i64 e] 23)).setCell ⟨tb, 0, none⟩ (.int .i64 e)) tb [.int .i64 e] 23 ∧ Chg [tb] w ((wr.alloc (.cells #[.int .i64 e] 23)).setCell ⟨tb, 0, none⟩ (.int .i64 e))) := Lib.hid ⟨HW2.out.1.set 0 _, (HC.out.alloc _).set (Or.inl (List.mem_singleton.2 rfl)) 0 _⟩
      clear hW1
      go_wp2
      go_ret
      exact ⟨rfl, HZ.out.1, HZ.out.2⟩
set_option maxRecDepth 20000 in
set_option maxHeartbeats 16000000 in
theorem fs_asAy (L : List Wp) (len : Nat) (hl : L.length = len) (e : Int) (v : Value) (x : Wp) (ho : Fa.fst true L = some x) (tb a0 : Nat) (old : Value) (w : World) (HE : EV w L e v) (ha : w.cell? ⟨a0, 0, none⟩ = some (.pointer (some ⟨tb, 0, none⟩))) (ht : Blk w tb [old] 46) :
    Calls Tryd.prog 46 #[v, .iface 77 (.pointer (some ⟨tb, 0, none⟩)), .agg #[.pointer (some ⟨4, 77, none⟩), .pointer (some ⟨a0, 0, none⟩), .int .u64 150], .iface 92 (.agg #[.pointer (some ⟨4, 46, none⟩)])] w fun r w' => r = .returned (.bool true) ∧ (∃ b u, Blk w' tb [.pointer (some ⟨b, 0, none⟩)] 46 ∧ Blk w b [.int .i64 x.l, .int .i64 x.c, u] 48) ∧ Chg [tb] w w' := by
  obtain ⟨T0, p0, rfl⟩ := HE.ne
  have h34 := @run_callFunc_extern Tryd.prog 34 _ (ReflectliteType.typeOf) Tryd.func34 (by kernel_rfl) (by kernel_rfl) (by kernel_rfl) (by kernel_rfl)
  have h85 := @run_callFunc_extern Tryd.prog 85 _ (ReflectliteType.relation "AssignableTo" ReflectliteType.assignableTo) Tryd.func85 (by kernel_rfl) (by kernel_rfl) (by kernel_rfl) (by kernel_rfl)
  have h49 := @run_callFunc_extern Tryd.prog 49 _ (ReflectliteValue.method (ReflectliteValue.valueError "reflectlite.Value.Elem" 0) ReflectliteValue.elem) Tryd.func49 (by kernel_rfl) (by kernel_rfl) (by kernel_rfl) (by kernel_rfl)
  have h43 := @run_callFunc_extern Tryd.prog 43 _ (fun args => ReflectliteValue.unpack (args.getD 0 (.tuple #[]))) Tryd.func43 (by kernel_rfl) (by kernel_rfl) (by kernel_rfl) (by kernel_rfl)
  have h50 := @run_callFunc_extern Tryd.prog 50 _ (ReflectliteValue.set) Tryd.func50 (by kernel_rfl) (by kernel_rfl) (by kernel_rfl) (by kernel_rfl)
  have mA := rl_mA
  have HL : Hid (L.length = len ∧ EV w (L.drop 0) e (.iface T0 p0) ∧ Fa.fst true (L.drop 0) = some x) := Lib.hid ⟨hl, HE, ho⟩
  obtain ⟨W1, hW1⟩ : ∃ W1, w.alloc (.cells #[.pointer (some ⟨4, 77, none⟩), .pointer (some ⟨a0, 0, none⟩), .int .u64 150] 84) = W1 := ⟨_, rfl⟩
  have ka : a0 < w.heap.size := by have := World.block_lt_of_cell? _ _ ha; exact this
  have HA : Hid (W1.cell? ⟨a0, 0, none⟩ = some (.pointer (some ⟨tb, 0, none⟩))) := Lib.hid (by rw [← hW1]; exact (((Below.refl _ _).alloc (Nat.le_refl _) _).cell ka).trans ha)
  have HT : Hid (Blk W1 tb [old] 46) := Lib.hid (by rw [← hW1]; exact ht.alloc _)
  have HX : Hid (Blk W1 w.heap.size [.pointer (some ⟨4, 77, none⟩), .pointer (some ⟨a0, 0, none⟩), .int .u64 150] 84) := Lib.hid (by rw [← hW1]; exact Blk.newA _ _ _)
  have HC : Hid (Chg [tb] w W1) := Lib.hid (by rw [← hW1]; exact (Chg.refl [tb] w).alloc _)
  clear hl HE ha ht ka ho
  go_enter Tryd.func46, Tryd.ntmps46
  go_upto_region 1 with fail
  go_loopg [0, 9, 10, 11, 12, 14, 15] len (fun k v _ _ _ _ _ _ wr => wr = W1 ∧ ∃ (j : Nat) (T : TypeId) (p : Value), v = .iface T p ∧ j + k = len ∧ Hid (EV w (L.drop j) e (.iface T p) ∧ Fa.fst true (L.drop j) = some x))
  case atStart => exact ⟨by first | exact hW1 | rfl, 0, T0, p0, rfl, by omega, Lib.hid HL.out.2⟩
  case round =>
    obtain ⟨hwr, j, T, p, rfl, hj, HB⟩ := hrel
    subst hwr
    by_cases hjl : j < len
    · obtain ⟨ba, ln, co, nm, es⟩ : ∃ ba ln co nm, L[j]? = some ⟨ba, ln, co, nm⟩ := ⟨_, _, _, _, List.getElem?_eq_getElem (by rw [HL.out.1]; exact hjl)⟩
      have hE := HB.out.1
      rw [drop_at es] at hE
      obtain ⟨b', u, hE2, hW⟩ := hE
      obtain ⟨T2, q2, rfl⟩ := hE2.ne
      dsimp only at hW
      have HE2 := Lib.hid hE2
      have HDR := Lib.hid (drop_at es)
      clear es hE2
      rcases hW with ⟨rfl, hv, hk⟩ | ⟨rfl, hv, hk⟩
      · injection hv with hv1 hv2
        subst hv1 hv2
        have HO : Hid (x = ⟨true, ln, co, nm⟩) := Lib.hid (by have h := HB.out.2; rw [HDR.out] at h; unfold Fa.fst at h; rw [if_pos (by simp)] at h; injection h with h; exact h.symm)
        have HK := Lib.hid hk
        clear hk
        have n0 := rl_typeA
        have n1 := rl_asAA
        have n2 := rl_elA ⟨a0, 0, none⟩ ⟨tb, 0, none⟩ wr HA.out
        have n3 := rl_xvA
        have HW2 : Hid (Blk (wr.alloc (.cells #[.pointer (some ⟨b', 0, none⟩)] 46)) tb [old] 46 ∧ (wr.alloc (.cells #[.pointer (some ⟨b', 0, none⟩)] 46)).cell? ⟨wr.heap.size, 0, none⟩ = some (.pointer (some ⟨b', 0, none⟩))) := Lib.hid ⟨HT.out.alloc _, (Blk.newA wr #[.pointer (some ⟨b', 0, none⟩)] 46).cell (i := 0) rfl⟩
        have n4 := rl_setA ⟨tb, 0, none⟩ ⟨wr.heap.size, 0, none⟩ ⟨b', 0, none⟩ old (wr.alloc (.cells #[.pointer (some ⟨b', 0, none⟩)] 46)) HW2.out.2 (HW2.out.1.cell (i := 0) rfl) (HW2.out.1.free 0)
        have y0 := HX.out.cell (i := 0) rfl
        have y1 := HX.out.cell (i := 1) rfl
        have y2 := HX.out.cell (i := 2) rfl
        have HZ : Hid (Blk ((wr.alloc (.cells #[.pointer (some ⟨b', 0, none⟩)] 46)).setCell ⟨tb, 0, none⟩ (.pointer (some ⟨b', 0, none⟩))) tb [.pointer (some ⟨b', 0, none⟩)] 46 ∧ Chg [tb] w ((wr.alloc (.cells #[.pointer (some ⟨b', 0, none⟩)] 46)).setCell ⟨tb, 0, none⟩ (.pointer (some ⟨b', 0, none⟩)))) := Lib.hid ⟨HW2.out.1.set 0 _, (HC.out.alloc _).set (Or.inl (List.mem_singleton.2 rfl)) 0 _⟩
        clear hW1
        go_wp2
        go_ret
        exact ⟨rfl, ⟨b', _, HZ.out.1, by rw [HO.out]; exact HK.out⟩, HZ.out.2⟩
      · injection hv with hv1 hv2
        subst hv1 hv2
        have HK := Lib.hid (hk.alloc (.cells #[.pointer (some ⟨4, 77, none⟩), .pointer (some ⟨a0, 0, none⟩), .int .u64 150] 84))
        clear hk
        rw [hW1] at HK
        have HO : Hid (Fa.fst true (L.drop (j + 1)) = some x) := Lib.hid (by have h := HB.out.2; rw [HDR.out] at h; unfold Fa.fst at h; rw [if_neg (by simp)] at h; exact h)
        have n0 := rl_typeI
        have n1 := rl_asIA
        have n2 := rl_noAsI (.pointer (some ⟨b', 0, none⟩)) 29 wr
        have n3 := fe_unI (.pointer (some ⟨b', 0, none⟩)) 29 wr
        have n4 := fe_mI (.pointer (some ⟨b', 0, none⟩)) wr
        clear hW1
        go_wp2_with (go_at_call 22; (with_reducible refine (fe_unwrapI b' nm (.iface T2 q2) _ HK.out).mono ?_); rintro r1 W3 ⟨rfl, rfl⟩)
        go_roundg (len - (j + 1))
        case measure => omega
        case rel => exact ⟨rfl, j + 1, T2, q2, rfl, by omega, Lib.hid ⟨HE2.out, HO.out⟩⟩
    · obtain rfl : j = len := by omega
      have hE := HB.out.1
      rw [List.drop_eq_nil_of_le (by rw [HL.out.1]; exact Nat.le_refl _)] at hE
      have hE' : (Value.iface T p) = .iface 23 (.int .i64 e) := hE
      injection hE' with hv1 hv2
      subst hv1 hv2
      clear hE
      exact absurd HB.out.2 (by rw [List.drop_eq_nil_of_le (by rw [HL.out.1]; exact Nat.le_refl _)]; unfold Fa.fst; simp)
set_option maxRecDepth 20000 in
set_option maxHeartbeats 16000000 in
theorem fs_asAn (L : List Wp) (len : Nat) (hl : L.length = len) (e : Int) (v : Value) (ho : Fa.fst true L = none) (tb a0 : Nat) (old : Value) (w : World) (HE : EV w L e v) (ha : w.cell? ⟨a0, 0, none⟩ = some (.pointer (some ⟨tb, 0, none⟩))) (ht : Blk w tb [old] 46) :
    Calls Tryd.prog 46 #[v, .iface 77 (.pointer (some ⟨tb, 0, none⟩)), .agg #[.pointer (some ⟨4, 77, none⟩), .pointer (some ⟨a0, 0, none⟩), .int .u64 150], .iface 92 (.agg #[.pointer (some ⟨4, 46, none⟩)])] w fun r w' => r = .returned (.bool false) ∧ Blk w' tb [old] 46 ∧ Chg [tb] w w' := by
  obtain ⟨T0, p0, rfl⟩ := HE.ne
  have h34 := @run_callFunc_extern Tryd.prog 34 _ (ReflectliteType.typeOf) Tryd.func34 (by kernel_rfl) (by kernel_rfl) (by kernel_rfl) (by kernel_rfl)
  have h85 := @run_callFunc_extern Tryd.prog 85 _ (ReflectliteType.relation "AssignableTo" ReflectliteType.assignableTo) Tryd.func85 (by kernel_rfl) (by kernel_rfl) (by kernel_rfl) (by kernel_rfl)
  have h49 := @run_callFunc_extern Tryd.prog 49 _ (ReflectliteValue.method (ReflectliteValue.valueError "reflectlite.Value.Elem" 0) ReflectliteValue.elem) Tryd.func49 (by kernel_rfl) (by kernel_rfl) (by kernel_rfl) (by kernel_rfl)
  have h43 := @run_callFunc_extern Tryd.prog 43 _ (fun args => ReflectliteValue.unpack (args.getD 0 (.tuple #[]))) Tryd.func43 (by kernel_rfl) (by kernel_rfl) (by kernel_rfl) (by kernel_rfl)
  have h50 := @run_callFunc_extern Tryd.prog 50 _ (ReflectliteValue.set) Tryd.func50 (by kernel_rfl) (by kernel_rfl) (by kernel_rfl) (by kernel_rfl)
  have mA := rl_mA
  have HL : Hid (L.length = len ∧ EV w (L.drop 0) e (.iface T0 p0) ∧ Fa.fst true (L.drop 0) = none) := Lib.hid ⟨hl, HE, ho⟩
  obtain ⟨W1, hW1⟩ : ∃ W1, w.alloc (.cells #[.pointer (some ⟨4, 77, none⟩), .pointer (some ⟨a0, 0, none⟩), .int .u64 150] 84) = W1 := ⟨_, rfl⟩
  have ka : a0 < w.heap.size := by have := World.block_lt_of_cell? _ _ ha; exact this
  have HA : Hid (W1.cell? ⟨a0, 0, none⟩ = some (.pointer (some ⟨tb, 0, none⟩))) := Lib.hid (by rw [← hW1]; exact (((Below.refl _ _).alloc (Nat.le_refl _) _).cell ka).trans ha)
  have HT : Hid (Blk W1 tb [old] 46) := Lib.hid (by rw [← hW1]; exact ht.alloc _)
  have HX : Hid (Blk W1 w.heap.size [.pointer (some ⟨4, 77, none⟩), .pointer (some ⟨a0, 0, none⟩), .int .u64 150] 84) := Lib.hid (by rw [← hW1]; exact Blk.newA _ _ _)
  have HC : Hid (Chg [tb] w W1) := Lib.hid (by rw [← hW1]; exact (Chg.refl [tb] w).alloc _)
  clear hl HE ha ht ka ho
  go_enter Tryd.func46, Tryd.ntmps46
  go_upto_region 1 with fail
  go_loopg [0, 9, 10, 11, 12, 14, 15] len (fun k v _ _ _ _ _ _ wr => wr = W1 ∧ ∃ (j : Nat) (T : TypeId) (p : Value), v = .iface T p ∧ j + k = len ∧ Hid (EV w (L.drop j) e (.iface T p) ∧ Fa.fst true (L.drop j) = none))
  case atStart => exact ⟨by first | exact hW1 | rfl, 0, T0, p0, rfl, by omega, Lib.hid HL.out.2⟩
  case round =>
    obtain ⟨hwr, j, T, p, rfl, hj, HB⟩ := hrel
    subst hwr
    by_cases hjl : j < len
    · obtain ⟨ba, ln, co, nm, es⟩ : ∃ ba ln co nm, L[j]? = some ⟨ba, ln, co, nm⟩ := ⟨_, _, _, _, List.getElem?_eq_getElem (by rw [HL.out.1]; exact hjl)⟩
      have hE := HB.out.1
      rw [drop_at es] at hE
      obtain ⟨b', u, hE2, hW⟩ := hE
      obtain ⟨T2, q2, rfl⟩ := hE2.ne
      dsimp only at hW
      have HE2 := Lib.hid hE2
      have HDR := Lib.hid (drop_at es)
      clear es hE2
      rcases hW with ⟨rfl, hv, hk⟩ | ⟨rfl, hv, hk⟩
      · injection hv with hv1 hv2
        subst hv1 hv2
        exact absurd HB.out.2 (by rw [HDR.out]; unfold Fa.fst; rw [if_pos (by simp)]; simp)
      · injection hv with hv1 hv2
        subst hv1 hv2
        have HK := Lib.hid (hk.alloc (.cells #[.pointer (some ⟨4, 77, none⟩), .pointer (some ⟨a0, 0, none⟩), .int .u64 150] 84))
        clear hk
        rw [hW1] at HK
        have HO : Hid (Fa.fst true (L.drop (j + 1)) = none) := Lib.hid (by have h := HB.out.2; rw [HDR.out] at h; unfold Fa.fst at h; rw [if_neg (by simp)] at h; exact h)
        have n0 := rl_typeI
        have n1 := rl_asIA
        have n2 := rl_noAsI (.pointer (some ⟨b', 0, none⟩)) 29 wr
        have n3 := fe_unI (.pointer (some ⟨b', 0, none⟩)) 29 wr
        have n4 := fe_mI (.pointer (some ⟨b', 0, none⟩)) wr
        clear hW1
        go_wp2_with (go_at_call 22; (with_reducible refine (fe_unwrapI b' nm (.iface T2 q2) _ HK.out).mono ?_); rintro r1 W3 ⟨rfl, rfl⟩)
        go_roundg (len - (j + 1))
        case measure => omega
        case rel => exact ⟨rfl, j + 1, T2, q2, rfl, by omega, Lib.hid ⟨HE2.out, HO.out⟩⟩
    · obtain rfl : j = len := by omega
      have hE := HB.out.1
      rw [List.drop_eq_nil_of_le (by rw [HL.out.1]; exact Nat.le_refl _)] at hE
      have hE' : (Value.iface T p) = .iface 23 (.int .i64 e) := hE
      injection hE' with hv1 hv2
      subst hv1 hv2
      clear hE
      have n0 := rl_typeE
      have n1 := rl_asEA
      have n2 := rl_noAsE (.int .i64 e) 29 wr
      have n3 := fe_noUnE (.int .i64 e) 29 wr
      have n4 := fe_noUnsE (.int .i64 e) 29 wr
      clear hW1
      go_wp2
      go_ret
      exact ⟨rfl, HT.out, HC.out⟩
set_option maxRecDepth 20000 in
set_option maxHeartbeats 16000000 in
theorem fs_asIy (L : List Wp) (len : Nat) (hl : L.length = len) (e : Int) (v : Value) (x : Wp) (ho : Fa.fst false L = some x) (tb a0 : Nat) (old : Value) (w : World) (HE : EV w L e v) (ha : w.cell? ⟨a0, 0, none⟩ = some (.pointer (some ⟨tb, 0, none⟩))) (ht : Blk w tb [old] 49) :
    Calls Tryd.prog 46 #[v, .iface 78 (.pointer (some ⟨tb, 0, none⟩)), .agg #[.pointer (some ⟨4, 78, none⟩), .pointer (some ⟨a0, 0, none⟩), .int .u64 150], .iface 92 (.agg #[.pointer (some ⟨4, 49, none⟩)])] w fun r w' => r = .returned (.bool true) ∧ (∃ b u, Blk w' tb [.pointer (some ⟨b, 0, none⟩)] 49 ∧ Blk w b [.string x.n, u] 51) ∧ Chg [tb] w w' := by
  obtain ⟨T0, p0, rfl⟩ := HE.ne
  have h34 := @run_callFunc_extern Tryd.prog 34 _ (ReflectliteType.typeOf) Tryd.func34 (by kernel_rfl) (by kernel_rfl) (by kernel_rfl) (by kernel_rfl)
  have h85 := @run_callFunc_extern Tryd.prog 85 _ (ReflectliteType.relation "AssignableTo" ReflectliteType.assignableTo) Tryd.func85 (by kernel_rfl) (by kernel_rfl) (by kernel_rfl) (by kernel_rfl)
  have h49 := @run_callFunc_extern Tryd.prog 49 _ (ReflectliteValue.method (ReflectliteValue.valueError "reflectlite.Value.Elem" 0) ReflectliteValue.elem) Tryd.func49 (by kernel_rfl) (by kernel_rfl) (by kernel_rfl) (by kernel_rfl)
  have h43 := @run_callFunc_extern Tryd.prog 43 _ (fun args => ReflectliteValue.unpack (args.getD 0 (.tuple #[]))) Tryd.func43 (by kernel_rfl) (by kernel_rfl) (by kernel_rfl) (by kernel_rfl)
  have h50 := @run_callFunc_extern Tryd.prog 50 _ (ReflectliteValue.set) Tryd.func50 (by kernel_rfl) (by kernel_rfl) (by kernel_rfl) (by kernel_rfl)
  have mA := rl_mA
  have HL : Hid (L.length = len ∧ EV w (L.drop 0) e (.iface T0 p0) ∧ Fa.fst false (L.drop 0) = some x) := Lib.hid ⟨hl, HE, ho⟩
  obtain ⟨W1, hW1⟩ : ∃ W1, w.alloc (.cells #[.pointer (some ⟨4, 78, none⟩), .pointer (some ⟨a0, 0, none⟩), .int .u64 150] 84) = W1 := ⟨_, rfl⟩
  have ka : a0 < w.heap.size := by have := World.block_lt_of_cell? _ _ ha; exact this
  have HA : Hid (W1.cell? ⟨a0, 0, none⟩ = some (.pointer (some ⟨tb, 0, none⟩))) := Lib.hid (by rw [← hW1]; exact (((Below.refl _ _).alloc (Nat.le_refl _) _).cell ka).trans ha)
  have HT : Hid (Blk W1 tb [old] 49) := Lib.hid (by rw [← hW1]; exact ht.alloc _)
  have HX : Hid (Blk W1 w.heap.size [.pointer (some ⟨4, 78, none⟩), .pointer (some ⟨a0, 0, none⟩), .int .u64 150] 84) := Lib.hid (by rw [← hW1]; exact Blk.newA _ _ _)
  have HC : Hid (Chg [tb] w W1) := Lib.hid (by rw [← hW1]; exact (Chg.refl [tb] w).alloc _)
  clear hl HE ha ht ka ho
  go_enter Tryd.func46, Tryd.ntmps46
  go_upto_region 1 with fail
  go_loopg [0, 9, 10, 11, 12, 14, 15] len (fun k v _ _ _ _ _ _ wr => wr = W1 ∧ ∃ (j : Nat) (T : TypeId) (p : Value), v = .iface T p ∧ j + k = len ∧ Hid (EV w (L.drop j) e (.iface T p) ∧ Fa.fst false (L.drop j) = some x))
  case atStart => exact ⟨by first | exact hW1 | rfl, 0, T0, p0, rfl, by omega, Lib.hid HL.out.2⟩
  case round =>
    obtain ⟨hwr, j, T, p, rfl, hj, HB⟩ := hrel
    subst hwr
    by_cases hjl : j < len
    · obtain ⟨ba, ln, co, nm, es⟩ : ∃ ba ln co nm, L[j]? = some ⟨ba, ln, co, nm⟩ := ⟨_, _, _, _, List.getElem?_eq_getElem (by rw [HL.out.1]; exact hjl)⟩
      have hE := HB.out.1
      rw [drop_at es] at hE
      obtain ⟨b', u, hE2, hW⟩ := hE
      obtain ⟨T2, q2, rfl⟩ := hE2.ne
      dsimp only at hW
      have HE2 := Lib.hid hE2
      have HDR := Lib.hid (drop_at es)
      clear es hE2
      rcases hW with ⟨rfl, hv, hk⟩ | ⟨rfl, hv, hk⟩
      · injection hv with hv1 hv2
        subst hv1 hv2
        have HK := Lib.hid (hk.alloc (.cells #[.pointer (some ⟨4, 78, none⟩), .pointer (some ⟨a0, 0, none⟩), .int .u64 150] 84))
        clear hk
        rw [hW1] at HK
        have HO : Hid (Fa.fst false (L.drop (j + 1)) = some x) := Lib.hid (by have h := HB.out.2; rw [HDR.out] at h; unfold Fa.fst at h; rw [if_neg (by simp)] at h; exact h)
        have n0 := rl_typeA
        have n1 := rl_asAI
        have n2 := rl_noAsA (.pointer (some ⟨b', 0, none⟩)) 29 wr
        have n3 := fe_unA (.pointer (some ⟨b', 0, none⟩)) 29 wr
        have n4 := fe_mA (.pointer (some ⟨b', 0, none⟩)) wr
        clear hW1
        go_wp2_with (go_at_call 21; (with_reducible refine (fe_unwrapA b' ln co (.iface T2 q2) _ HK.out).mono ?_); rintro r1 W3 ⟨rfl, rfl⟩)
        go_roundg (len - (j + 1))
        case measure => omega
        case rel => exact ⟨rfl, j + 1, T2, q2, rfl, by omega, Lib.hid ⟨HE2.out, HO.out⟩⟩
      · injection hv with hv1 hv2
        subst hv1 hv2
        have HO : Hid (x = ⟨false, ln, co, nm⟩) := Lib.hid (by have h := HB.out.2; rw [HDR.out] at h; unfold Fa.fst at h; rw [if_pos (by simp)] at h; injection h with h; exact h.symm)
        have HK := Lib.hid hk
        clear hk
        have n0 := rl_typeI
        have n1 := rl_asII
        have n2 := rl_elI ⟨a0, 0, none⟩ ⟨tb, 0, none⟩ wr HA.out
        have n3 := rl_xvI
        have HW2 : Hid (Blk (wr.alloc (.cells #[.pointer (some ⟨b', 0, none⟩)] 49)) tb [old] 49 ∧ (wr.alloc (.cells #[.pointer (some ⟨b', 0, none⟩)] 49)).cell? ⟨wr.heap.size, 0, none⟩ = some (.pointer (some ⟨b', 0, none⟩))) := Lib.hid ⟨HT.out.alloc _, (Blk.newA wr #[.pointer (some ⟨b', 0, none⟩)] 49).cell (i := 0) rfl⟩
        have n4 := rl_setI ⟨tb, 0, none⟩ ⟨wr.heap.size, 0, none⟩ ⟨b', 0, none⟩ old (wr.alloc (.cells #[.pointer (some ⟨b', 0, none⟩)] 49)) HW2.out.2 (HW2.out.1.cell (i := 0) rfl) (HW2.out.1.free 0)
        have y0 := HX.out.cell (i := 0) rfl
        have y1 := HX.out.cell (i := 1) rfl
        have y2 := HX.out.cell (i := 2) rfl
        have HZ : Hid (Blk ((wr.alloc (.cells #[.pointer (some ⟨b', 0, none⟩)] 49)).setCell ⟨tb, 0, none⟩ (.pointer (some ⟨b', 0, none⟩))) tb [.pointer (some ⟨b', 0, none⟩)] 49 ∧ Chg [tb] w ((wr.alloc (.cells #[.pointer (some ⟨b', 0, none⟩)] 49)).setCell ⟨tb, 0, none⟩ (.pointer (some ⟨b', 0, none⟩)))) := Lib.hid ⟨HW2.out.1.set 0 _, (HC.out.alloc _).set (Or.inl (List.mem_singleton.2 rfl)) 0 _⟩
        clear hW1
        go_wp2
        go_ret
        exact ⟨rfl, ⟨b', _, HZ.out.1, by rw [HO.out]; exact HK.out⟩, HZ.out.2⟩
    · obtain rfl : j = len := by omega
      have hE := HB.out.1
      rw [List.drop_eq_nil_of_le (by rw [HL.out.1]; exact Nat.le_refl _)] at hE
      have hE' : (Value.iface T p) = .iface 23 (.int .i64 e) := hE
      injection hE' with hv1 hv2
      subst hv1 hv2
      clear hE
      exact absurd HB.out.2 (by rw [List.drop_eq_nil_of_le (by rw [HL.out.1]; exact Nat.le_refl _)]; unfold Fa.fst; simp)
set_option maxRecDepth 20000 in
set_option maxHeartbeats 16000000 in
theorem fs_asIn (L : List Wp) (len : Nat) (hl : L.length = len) (e : Int) (v : Value) (ho : Fa.fst false L = none) (tb a0 : Nat) (old : Value) (w : World) (HE : EV w L e v) (ha : w.cell? ⟨a0, 0, none⟩ = some (.pointer (some ⟨tb, 0, none⟩))) (ht : Blk w tb [old] 49) :
    Calls Tryd.prog 46 #[v, .iface 78 (.pointer (some ⟨tb, 0, none⟩)), .agg #[.pointer (some ⟨4, 78, none⟩), .pointer (some ⟨a0, 0, none⟩), .int .u64 150], .iface 92 (.agg #[.pointer (some ⟨4, 49, none⟩)])] w fun r w' => r = .returned (.bool false) ∧ Blk w' tb [old] 49 ∧ Chg [tb] w w' := by
  obtain ⟨T0, p0, rfl⟩ := HE.ne
  have h34 := @run_callFunc_extern Tryd.prog 34 _ (ReflectliteType.typeOf) Tryd.func34 (by kernel_rfl) (by kernel_rfl) (by kernel_rfl) (by kernel_rfl)
  have h85 := @run_callFunc_extern Tryd.prog 85 _ (ReflectliteType.relation "AssignableTo" ReflectliteType.assignableTo) Tryd.func85 (by kernel_rfl) (by kernel_rfl) (by kernel_rfl) (by kernel_rfl)
  have h49 := @run_callFunc_extern Tryd.prog 49 _ (ReflectliteValue.method (ReflectliteValue.valueError "reflectlite.Value.Elem" 0) ReflectliteValue.elem) Tryd.func49 (by kernel_rfl) (by kernel_rfl) (by kernel_rfl) (by kernel_rfl)
  have h43 := @run_callFunc_extern Tryd.prog 43 _ (fun args => ReflectliteValue.unpack (args.getD 0 (.tuple #[]))) Tryd.func43 (by kernel_rfl) (by kernel_rfl) (by kernel_rfl) (by kernel_rfl)
  have h50 := @run_callFunc_extern Tryd.prog 50 _ (ReflectliteValue.set) Tryd.func50 (by kernel_rfl) (by kernel_rfl) (by kernel_rfl) (by kernel_rfl)
  have mA := rl_mA
  have HL : Hid (L.length = len ∧ EV w (L.drop 0) e (.iface T0 p0) ∧ Fa.fst false (L.drop 0) = none) := Lib.hid ⟨hl, HE, ho⟩
  obtain ⟨W1, hW1⟩ : ∃ W1, w.alloc (.cells #[.pointer (some ⟨4, 78, none⟩), .pointer (some ⟨a0, 0, none⟩), .int .u64 150] 84) = W1 := ⟨_, rfl⟩
  have ka : a0 < w.heap.size := by have := World.block_lt_of_cell? _ _ ha; exact this
  have HA : Hid (W1.cell? ⟨a0, 0, none⟩ = some (.pointer (some ⟨tb, 0, none⟩))) := Lib.hid (by rw [← hW1]; exact (((Below.refl _ _).alloc (Nat.le_refl _) _).cell ka).trans ha)
  have HT : Hid (Blk W1 tb [old] 49) := Lib.hid (by rw [← hW1]; exact ht.alloc _)
  have HX : Hid (Blk W1 w.heap.size [.pointer (some ⟨4, 78, none⟩), .pointer (some ⟨a0, 0, none⟩), .int .u64 150] 84) := Lib.hid (by rw [← hW1]; exact Blk.newA _ _ _)
  have HC : Hid (Chg [tb] w W1) := Lib.hid (by rw [← hW1]; exact (Chg.refl [tb] w).alloc _)
  clear hl HE ha ht ka ho
  go_enter Tryd.func46, Tryd.ntmps46
  go_upto_region 1 with fail
  go_loopg [0, 9, 10, 11, 12, 14, 15] len (fun k v _ _ _ _ _ _ wr => wr = W1 ∧ ∃ (j : Nat) (T : TypeId) (p : Value), v = .iface T p ∧ j + k = len ∧ Hid (EV w (L.drop j) e (.iface T p) ∧ Fa.fst false (L.drop j) = none))
  case atStart => exact ⟨by first | exact hW1 | rfl, 0, T0, p0, rfl, by omega, Lib.hid HL.out.2⟩
  case round =>
    obtain ⟨hwr, j, T, p, rfl, hj, HB⟩ := hrel
    subst hwr
    by_cases hjl : j < len
    · obtain ⟨ba, ln, co, nm, es⟩ : ∃ ba ln co nm, L[j]? = some ⟨ba, ln, co, nm⟩ := ⟨_, _, _, _, List.getElem?_eq_getElem (by rw [HL.out.1]; exact hjl)⟩
      have hE := HB.out.1
      rw [drop_at es] at hE
      obtain ⟨b', u, hE2, hW⟩ := hE
      obtain ⟨T2, q2, rfl⟩ := hE2.ne
      dsimp only at hW
      have HE2 := Lib.hid hE2
      have HDR := Lib.hid (drop_at es)
      clear es hE2
      rcases hW with ⟨rfl, hv, hk⟩ | ⟨rfl, hv, hk⟩
      · injection hv with hv1 hv2
        subst hv1 hv2
        have HK := Lib.hid (hk.alloc (.cells #[.pointer (some ⟨4, 78, none⟩), .pointer (some ⟨a0, 0, none⟩), .int .u64 150] 84))
        clear hk
        rw [hW1] at HK
        have HO : Hid (Fa.fst false (L.drop (j + 1)) = none) := Lib.hid (by have h := HB.out.2; rw [HDR.out] at h; unfold Fa.fst at h; rw [if_neg (by simp)] at h; exact h)
        have n0 := rl_typeA
        have n1 := rl_asAI
        have n2 := rl_noAsA (.pointer (some ⟨b', 0, none⟩)) 29 wr
        have n3 := fe_unA (.pointer (some ⟨b', 0, none⟩)) 29 wr
        have n4 := fe_mA (.pointer (some ⟨b', 0, none⟩)) wr
        clear hW1
        go_wp2_with (go_at_call 21; (with_reducible refine (fe_unwrapA b' ln co (.iface T2 q2) _ HK.out).mono ?_); rintro r1 W3 ⟨rfl, rfl⟩)
        go_roundg (len - (j + 1))
        case measure => omega
        case rel => exact ⟨rfl, j + 1, T2, q2, rfl, by omega, Lib.hid ⟨HE2.out, HO.out⟩⟩
      · injection hv with hv1 hv2
        subst hv1 hv2
        exact absurd HB.out.2 (by rw [HDR.out]; unfold Fa.fst; rw [if_pos (by simp)]; simp)
    · obtain rfl : j = len := by omega
      have hE := HB.out.1
      rw [List.drop_eq_nil_of_le (by rw [HL.out.1]; exact Nat.le_refl _)] at hE
      have hE' : (Value.iface T p) = .iface 23 (.int .i64 e) := hE
      injection hE' with hv1 hv2
      subst hv1 hv2
      clear hE
      have n0 := rl_typeE
      have n1 := rl_asEI
      have n2 := rl_noAsE (.int .i64 e) 29 wr
      have n3 := fe_noUnE (.int .i64 e) 29 wr
      have n4 := fe_noUnsE (.int .i64 e) 29 wr
      clear hW1
      go_wp2
      go_ret
      exact ⟨rfl, HT.out, HC.out⟩
end Go.Proofs.YtlofcccabdocgaaDoor
