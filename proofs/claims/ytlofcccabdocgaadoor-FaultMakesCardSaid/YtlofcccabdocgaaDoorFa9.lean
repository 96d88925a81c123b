/- Faults: errors.Is, fault.Is. -/
import Derived.Test.YtlofcccabdocgaaDoorFa8
import Derived.LaidEql
import Derived.Stop.Asserts
import Derived.RowKitTokens
import Derived.Deep.LoopGhost
import Derived.Defers
import Derived.Recover
import Derived.WalkKit
import Derived.ProofKit
import Derived.Handy
import Derived.WalkLawsBesides
import Derived.WalkSpells
import Derived.Lib.Hide
import Derived.Lib.SliceRun
import Derived.Deep.RegionLaw
import Derived.RegionTactic
import Derived.ChangeAlike
import Derived.WalkSmall
import Derived.Deep.QuietTactic
import Derived.BigQuiet
import Derived.OwnWalk
import Derived.Outline
import Derived.Deep.CutRange
import Derived.Deep.CutBlock
import Derived.LoopTactic
namespace Go.Proofs.YtlofcccabdocgaaDoor
open Go.ChangeShapes Go.WideShapes Go.ChangeAt Go.RowKit
set_option linter.unusedSimpArgs false
set_option linter.unusedVariables false

open Go.Extern.Stop Go.Stop Go.Extern
theorem fe_typeE (v : Value) (w : World) : (ReflectliteType.typeOf #[.iface 23 v]).run Tryd.prog w = .ok (.iface 92 (.agg #[.pointer (some ⟨4, 23, none⟩)])) w := by kernel_rfl
theorem fe_compE (w : World) : ((Extern.ReflectliteType.method fun t => do Rtype.noPackHeld "Comparable" t; pure (.bool (← typeInfo t).comparable)) #[.agg #[.pointer (some ⟨4, 23, none⟩)]]).run Tryd.prog w = .ok (.bool true) w := by kernel_rfl
theorem fe_compC (w : World) : (callFunc 86 #[.agg #[.pointer (some ⟨4, 23, none⟩)]]).run Tryd.prog w = .ok (.value (.bool true)) w := by
  rw [@run_callFunc_extern Tryd.prog 86 _ (Extern.ReflectliteType.method fun t => do Rtype.noPackHeld "Comparable" t; pure (.bool (← typeInfo t).comparable)) Tryd.func86 (by kernel_rfl) (by kernel_rfl) (by kernel_rfl) (by kernel_rfl), fe_compE]
  rfl
theorem fe_mC (v : Value) (w : World) : (Go.method 252 92 v "Comparable").run Tryd.prog w = .ok (86, v) w := by kernel_rfl
set_option maxRecDepth 20000 in
set_option maxHeartbeats 16000000 in
theorem fe_esIs (L : List Wp) (len : Nat) (hl : L.length = len) (e o : Int) (v : Value) (b : Bool) (hb : (e == o) = b) (w : World) (HE : EV w L e v) :
    Calls Tryd.prog 25 #[v, .iface 23 (.int .i64 o)] w fun r w' => r = .returned (.bool b) ∧ w' = w := by
  obtain ⟨T0, p0, rfl⟩ := HE.ne
  have h34 := @run_callFunc_extern Tryd.prog 34 _ Extern.ReflectliteType.typeOf Tryd.func34 (by kernel_rfl) (by kernel_rfl) (by kernel_rfl) (by kernel_rfl)
  have h86 := fe_compC
  have tT := fe_typeE
  have mR := fe_mC
  have HH := Lib.hid (And.intro hl (And.intro hb HE))
  clear hl hb HE
  go_enter Tryd.func25, Tryd.ntmps25
  go_wp2_with (go_at_call 35; (with_reducible refine (fe_is L len HH.out.1 e o _ b HH.out.2.1 _ HH.out.2.2).mono ?_); rintro r1 W3 ⟨rfl, rfl⟩)
  go_ret
  exact ⟨rfl, rfl⟩
theorem fe_idle (w : World) : CallsD Tryd.prog 24 #[] .returning w fun e u' w' => e = .returned (.tuple #[]) ∧ u' = .returning ∧ w' = w := by
  refine callsD_of_wpS Tryd.func24 rfl fun c₀ cs hu => ?_
  apply wpS_region
  simp [wpOpsS, go_sem, recoverD, hu, Tryd.ntmps24, Exit.thenS, bodyPostS, results, Tryd.results24]
  cases c₀
  simp_all
set_option maxRecDepth 20000 in
set_option maxHeartbeats 16000000 in
theorem fe_fIs (L : List Wp) (len : Nat) (hl : L.length = len) (e o : Int) (v : Value) (b : Bool) (hb : ((o != 0) && (e == o)) = b) (w : World) (HE : EV w L e v) :
    Calls Tryd.prog 9 #[v, .int .i64 o] w fun r w' => r = .returned (.bool b) ∧ w' = w := by
  have hmf : ∀ (fn : Fn) (first cap : Array Value) (w : World), (Instr.makeFunc fn first cap).run Tryd.prog w = .ok (.func fn first cap) w := fun _ _ _ _ => rfl
  obtain ⟨c, hc⟩ : ∃ c, (e == o) = c := ⟨_, rfl⟩
  rw [hc] at hb
  by_cases h0 : o = 0
  · have k0 : (o != 0) = false := by simp [h0]
    obtain rfl : false = b := by rw [← hb, k0]; rfl
    clear hb hc h0
    go_enter_defers Tryd.func9, Tryd.ntmps9
    go_wp2
    refine leaves_cons (f := 24) (args := #[]) (by simp) (by simp [go_sem]) ?_
    refine (fe_idle _).mono ?_
    rintro e u' w'' ⟨rfl, rfl, rfl⟩
    simp [Leaves, settle, results, Tryd.results9, go_sem]
  · have k0 : (o != 0) = true := by simp [h0]
    obtain rfl : c = b := by rw [← hb, k0]; rfl
    have HH := Lib.hid (And.intro hl (And.intro hc HE))
    clear hl hc HE hb h0
    go_enter_defers Tryd.func9, Tryd.ntmps9
    go_wp2_with (go_at_call 25; (with_reducible refine (fe_esIs L len HH.out.1 e o _ _ HH.out.2.1 _ HH.out.2.2).mono ?_); rintro r1 W3 ⟨rfl, rfl⟩)
    refine leaves_cons (f := 24) (args := #[]) (by simp) (by simp [go_sem]) ?_
    refine (fe_idle _).mono ?_
    rintro e u' w'' ⟨rfl, rfl, rfl⟩
    simp [Leaves, settle, results, Tryd.results9, go_sem]
end Go.Proofs.YtlofcccabdocgaaDoor
