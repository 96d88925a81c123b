/- Faults: errors.Is. -/
import Derived.Test.YtlofcccabdocgaaDoorFa7
import Derived.LaidEql
import Derived.Stop.Asserts
import Derived.RowKitTokens
import Derived.Deep.LoopGhost
import Derived.Defers
import Derived.Recover
import Derived.WalkKit
import Derived.ProofKit
import Derived.Handy
import Derived.WalkLawsBesides
import Derived.WalkSpells
import Derived.Lib.Hide
import Derived.Lib.SliceRun
import Derived.Deep.RegionLaw
import Derived.RegionTactic
import Derived.ChangeAlike
import Derived.WalkSmall
import Derived.Deep.QuietTactic
import Derived.BigQuiet
import Derived.OwnWalk
import Derived.Outline
import Derived.Deep.CutRange
import Derived.Deep.CutBlock
import Derived.LoopTactic
namespace Go.Proofs.YtlofcccabdocgaaDoor
open Go.ChangeShapes Go.WideShapes Go.ChangeAt Go.RowKit
set_option linter.unusedSimpArgs false
set_option linter.unusedVariables false

open Go.Extern.Stop Go.Stop Go.Extern
theorem fe_noIsE (v : Value) (xT : TypeId) (w : World) : (Instr.typeAssert (.iface 23 v) xT 94 true).run Tryd.prog w = .ok (.tuple #[.nilIface, .bool false]) w := run_typeAssert_lacksB Tryd.underlying94 (by kernel_rfl) (by kernel_rfl) v xT w
theorem fe_noIsA (v : Value) (xT : TypeId) (w : World) : (Instr.typeAssert (.iface 46 v) xT 94 true).run Tryd.prog w = .ok (.tuple #[.nilIface, .bool false]) w := run_typeAssert_lacksB Tryd.underlying94 (by kernel_rfl) (by kernel_rfl) v xT w
theorem fe_noIsI (v : Value) (xT : TypeId) (w : World) : (Instr.typeAssert (.iface 49 v) xT 94 true).run Tryd.prog w = .ok (.tuple #[.nilIface, .bool false]) w := run_typeAssert_lacksB Tryd.underlying94 (by kernel_rfl) (by kernel_rfl) v xT w
theorem fe_noUnE (v : Value) (xT : TypeId) (w : World) : (Instr.typeAssert (.iface 23 v) xT 97 true).run Tryd.prog w = .ok (.tuple #[.nilIface, .bool false]) w := run_typeAssert_lacksB Tryd.underlying97 (by kernel_rfl) (by kernel_rfl) v xT w
theorem fe_noUnsE (v : Value) (xT : TypeId) (w : World) : (Instr.typeAssert (.iface 23 v) xT 98 true).run Tryd.prog w = .ok (.tuple #[.nilIface, .bool false]) w := run_typeAssert_lacksB Tryd.underlying98 (by kernel_rfl) (by kernel_rfl) v xT w
theorem fe_unA (v : Value) (xT : TypeId) (w : World) : (Instr.typeAssert (.iface 46 v) xT 97 true).run Tryd.prog w = .ok (.tuple #[.iface 46 v, .bool true]) w := run_typeAssert_hasB Tryd.underlying97 (by kernel_rfl) v xT w
theorem fe_unI (v : Value) (xT : TypeId) (w : World) : (Instr.typeAssert (.iface 49 v) xT 97 true).run Tryd.prog w = .ok (.tuple #[.iface 49 v, .bool true]) w := run_typeAssert_hasB Tryd.underlying97 (by kernel_rfl) v xT w
theorem fe_mA (v : Value) (w : World) : (Go.method 252 46 v "Unwrap").run Tryd.prog w = .ok (21, v) w := by kernel_rfl
theorem fe_mI (v : Value) (w : World) : (Go.method 252 49 v "Unwrap").run Tryd.prog w = .ok (22, v) w := by kernel_rfl
theorem fe_eq (e o : Int) (b : Bool) (hb : (e == o) = b) (w : World) : (binOp .eql 29 (.iface 23 (.int .i64 e)) (.iface 23 (.int .i64 o))).run Tryd.prog w = .ok (.bool b) w := by
  subst hb
  kernel_rfl
theorem fe_neA (v : Value) (o : Int) (w : World) : (binOp .eql 29 (.iface 46 v) (.iface 23 (.int .i64 o))).run Tryd.prog w = .ok (.bool false) w := run_eql_iface_types 46 23 v (.int .i64 o) Tryd.underlying29 (by decide) w
theorem fe_neI (v : Value) (o : Int) (w : World) : (binOp .eql 29 (.iface 49 v) (.iface 23 (.int .i64 o))).run Tryd.prog w = .ok (.bool false) w := run_eql_iface_types 49 23 v (.int .i64 o) Tryd.underlying29 (by decide) w
set_option maxRecDepth 20000 in
set_option maxHeartbeats 16000000 in
theorem fe_unwrapA (b : Nat) (l c : Int) (u : Value) (w : World) (hb : Blk w b [.int .i64 l, .int .i64 c, u] 48) :
    Calls Tryd.prog 21 #[.pointer (some ⟨b, 0, none⟩)] w fun r w' => r = .returned u ∧ w' = w := by
  have d2 := hb.cell (i := 2) rfl
  go_enter Tryd.func21, Tryd.ntmps21
  go_wp2
  go_ret
  exact ⟨rfl, rfl⟩
set_option maxRecDepth 20000 in
set_option maxHeartbeats 16000000 in
theorem fe_unwrapI (b : Nat) (nm : ByteArray) (u : Value) (w : World) (hb : Blk w b [.string nm, u] 51) :
    Calls Tryd.prog 22 #[.pointer (some ⟨b, 0, none⟩)] w fun r w' => r = .returned u ∧ w' = w := by
  have d2 := hb.cell (i := 1) rfl
  go_enter Tryd.func22, Tryd.ntmps22
  go_wp2
  go_ret
  exact ⟨rfl, rfl⟩
set_option maxRecDepth 20000 in
set_option maxHeartbeats 16000000 in
theorem fe_is (L : List Wp) (len : Nat) (hl : L.length = len) (e o : Int) (v : Value) (b : Bool) (hb : (e == o) = b) (w : World) (HE : EV w L e v) :
    Calls Tryd.prog 35 #[v, .iface 23 (.int .i64 o), .bool true] w fun r w' => r = .returned (.bool b) ∧ w' = w := by
  obtain ⟨T0, p0, rfl⟩ := HE.ne
  have HL := Lib.hid (And.intro hl (And.intro hb (show EV w (L.drop 0) e (.iface T0 p0) from HE)))
  clear hl hb HE
  go_enter Tryd.func35, Tryd.ntmps35
  go_upto_region 1 with fail
  go_loopg [0, 7, 8, 9, 10, 12, 13] len (fun k v _ _ _ _ _ _ wr => wr = w ∧ ∃ (j : Nat) (T : TypeId) (p : Value), v = .iface T p ∧ j + k = len ∧ Hid (EV w (L.drop j) e (.iface T p)))
  case atStart => exact ⟨rfl, 0, T0, p0, rfl, by omega, Lib.hid HL.out.2.2⟩
  case round =>
    obtain ⟨rfl, j, T, p, rfl, hj, HB⟩ := hrel
    by_cases hjl : j < len
    · obtain ⟨ba, ln, co, nm, es⟩ : ∃ ba ln co nm, L[j]? = some ⟨ba, ln, co, nm⟩ := ⟨_, _, _, _, List.getElem?_eq_getElem (by rw [HL.out.1]; exact hjl)⟩
      have hE := HB.out
      rw [drop_at es] at hE
      obtain ⟨b', u, hE2, hW⟩ := hE
      obtain ⟨T2, q2, rfl⟩ := hE2.ne
      dsimp only at hW
      have HE2 := Lib.hid hE2
      clear es hE2 HB
      rcases hW with ⟨_, hv, hk⟩ | ⟨_, hv, hk⟩
      · injection hv with hv1 hv2
        subst hv1 hv2
        have n1 := fe_neA (.pointer (some ⟨b', 0, none⟩)) o wr
        have n2 := fe_noIsA (.pointer (some ⟨b', 0, none⟩)) 29 wr
        have n3 := fe_unA (.pointer (some ⟨b', 0, none⟩)) 29 wr
        have n4 := fe_mA (.pointer (some ⟨b', 0, none⟩)) wr
        have HK := Lib.hid hk
        clear hk
        go_wp2_with (go_at_call 21; (with_reducible refine (fe_unwrapA b' ln co (.iface T2 q2) _ HK.out).mono ?_); rintro r1 W3 ⟨rfl, rfl⟩)
        go_roundg (len - (j + 1))
        case measure => omega
        case rel => exact ⟨rfl, j + 1, T2, q2, rfl, by omega, HE2⟩
      · injection hv with hv1 hv2
        subst hv1 hv2
        have n1 := fe_neI (.pointer (some ⟨b', 0, none⟩)) o wr
        have n2 := fe_noIsI (.pointer (some ⟨b', 0, none⟩)) 29 wr
        have n3 := fe_unI (.pointer (some ⟨b', 0, none⟩)) 29 wr
        have n4 := fe_mI (.pointer (some ⟨b', 0, none⟩)) wr
        have HK := Lib.hid hk
        clear hk
        go_wp2_with (go_at_call 22; (with_reducible refine (fe_unwrapI b' nm (.iface T2 q2) _ HK.out).mono ?_); rintro r1 W3 ⟨rfl, rfl⟩)
        go_roundg (len - (j + 1))
        case measure => omega
        case rel => exact ⟨rfl, j + 1, T2, q2, rfl, by omega, HE2⟩
    · obtain rfl : j = len := by omega
      have hE := HB.out
      rw [List.drop_eq_nil_of_le (by rw [HL.out.1]; exact Nat.le_refl _)] at hE
      have hE' : (Value.iface T p) = .iface 23 (.int .i64 e) := hE
      injection hE' with hv1 hv2
      subst hv1 hv2
      clear hE HB
      cases b with
      | true =>
        have n1 := fe_eq e o true HL.out.2.1 wr
        go_wp2
        go_ret
        exact ⟨rfl, rfl⟩
      | false =>
        have n1 := fe_eq e o false HL.out.2.1 wr
        have n2 := fe_noIsE (.int .i64 e) 29 wr
        have n3 := fe_noUnE (.int .i64 e) 29 wr
        have n4 := fe_noUnsE (.int .i64 e) 29 wr
        go_wp2
        go_ret
        exact ⟨rfl, rfl⟩
end Go.Proofs.YtlofcccabdocgaaDoor
