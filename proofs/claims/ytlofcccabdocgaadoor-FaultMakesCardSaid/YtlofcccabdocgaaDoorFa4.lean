/- Faults: errors in memory; Within, wrapped. -/
import Derived.Test.YtlofcccabdocgaaDoorFa2
import Derived.WalkKit
import Derived.ProofKit
import Derived.Handy
import Derived.WalkLawsBesides
import Derived.WalkSpells
import Derived.Lib.Hide
import Derived.Lib.SliceRun
import Derived.Deep.RegionLaw
import Derived.RegionTactic
import Derived.ChangeAlike
import Derived.WalkSmall
import Derived.Deep.QuietTactic
import Derived.BigQuiet
import Derived.OwnWalk
import Derived.Outline
import Derived.Deep.CutRange
import Derived.Deep.CutBlock
import Derived.LoopTactic
namespace Go.Proofs.YtlofcccabdocgaaDoor
open Go.ChangeShapes Go.WideShapes Go.ChangeAt Go.RowKit
set_option linter.unusedSimpArgs false
set_option linter.unusedVariables false

/-- A value that is a plain error, wrapped so. -/
def EV (W : World) : List Wp → Int → Value → Prop
  | [], e, v => v = .iface 23 (.int .i64 e)
  | x :: r, e, v => ∃ b u, EV W r e u ∧ ((x.a = true ∧ v = .iface 46 (.pointer (some ⟨b, 0, none⟩)) ∧ Blk W b [.int .i64 x.l, .int .i64 x.c, u] 48) ∨ (x.a = false ∧ v = .iface 49 (.pointer (some ⟨b, 0, none⟩)) ∧ Blk W b [.string x.n, u] 51))
theorem EV.below {W W' : World} (k : Below W.heap.size W W') : ∀ {L : List Wp} {e : Int} {v : Value}, EV W L e v → EV W' L e v
  | [], _, _, h => h
  | x :: r, e, v, h => by
    obtain ⟨b, u, h1, h2⟩ := h
    refine ⟨b, u, EV.below k h1, ?_⟩
    rcases h2 with ⟨h3, h4, h5⟩ | ⟨h3, h4, h5⟩
    · exact Or.inl ⟨h3, h4, h5.chg (l := []) (Chg.of_fresh k) (by simp)⟩
    · exact Or.inr ⟨h3, h4, h5.chg (l := []) (Chg.of_fresh k) (by simp)⟩
theorem EV.ne {W : World} : ∀ {L : List Wp} {e : Int} {v : Value}, EV W L e v → ∃ T p, v = .iface T p
  | [], e, v, h => ⟨_, _, h⟩
  | x :: r, e, v, h => by
    obtain ⟨b, u, h1, h2⟩ := h
    rcases h2 with ⟨h3, h4, h5⟩ | ⟨h3, h4, h5⟩ <;> exact ⟨_, _, h4⟩
set_option maxRecDepth 20000 in
set_option maxHeartbeats 16000000 in
theorem fa_within (nm : ByteArray) (T : TypeId) (p : Value) (w : World) :
    Calls Tryd.prog 18 #[.string nm, .iface T p] w fun e w' => ∃ b, e = .returned (.iface 49 (.pointer (some ⟨b, 0, none⟩))) ∧ Blk w' b [.string nm, .iface T p] 51 ∧ Below w.heap.size w w' := by
  have H0 : Hid (Blk (w.alloc (.cells #[.string nm, .iface T p] 51)) w.heap.size [.string nm, .iface T p] 51 ∧ Below w.heap.size w (w.alloc (.cells #[.string nm, .iface T p] 51))) := Lib.hid ⟨Blk.newA _ _ _, (Below.refl _ _).alloc (Nat.le_refl _) _⟩
  go_enter Tryd.func18, Tryd.ntmps18
  go_wp2_with fail
  go_ret
  exact ⟨_, rfl, H0.out⟩
theorem drop_at {α : Type} {L : List α} {q : Nat} {x : α} (h : L[q]? = some x) : L.drop q = x :: L.drop (q + 1) := by
  obtain ⟨hl, e⟩ := List.getElem?_eq_some_iff.1 h
  rw [List.drop_eq_getElem_cons hl, e]
set_option maxRecDepth 20000 in
set_option maxHeartbeats 16000000 in
theorem fa_wrapped (a : Option Addr) (len cap : Nat) (L : List Wp) (hl : L.length = len) (hlm : len ≤ 1000) (e : Int) (w : World) (HE : WL w a L) :
    Calls Tryd.prog 11 #[.slice a len cap, .int .i64 e] w fun r w' => ∃ v, r = .returned v ∧ EV w' L e v ∧ Below w.heap.size w w' := by
  have HL := Lib.hid (And.intro hl HE)
  have w0 : IntKind.i64.wrap ((len : Int) - 1) = (len : Int) - 1 := IntWalk.i64_in _ (by omega)
  have hdr : L.drop len = [] := List.drop_eq_nil_of_le (by omega)
  have HD := Lib.hid hdr
  clear hl HE hdr
  go_enter Tryd.func11, Tryd.ntmps11
  go_wp2_with fail
  go_loopw [5, 6] (fun o i wr => ∃ (k : Nat) (T : TypeId) (p : Value), o = .iface T p ∧ i = .int .i64 ((k : Int) - 1) ∧ k ≤ len ∧ Hid (EV wr (L.drop k) e (.iface T p) ∧ Below w.heap.size w wr)) (fun _ i _ => (intOf i + 1).toNat)
  case atStart => exact ⟨len, _, _, rfl, rfl, by omega, Lib.hid ⟨by rw [HD.out]; rfl, Below.refl _ _⟩⟩
  case round =>
    obtain ⟨k, T, p, rfl, rfl, hk, HB⟩ := hrel
    by_cases hk0 : k = 0
    · subst hk0
      have i1 : ¬ (0 : Int) ≤ ((0 : Nat) : Int) - 1 := by omega
      have HF : Hid (EV wr L e (.iface T p) ∧ Below w.heap.size w wr) := Lib.hid HB.out
      go_wp2_with fail
      go_ret
      exact ⟨_, rfl, HF.out⟩
    · obtain ⟨q, rfl⟩ : ∃ q, k = q + 1 := ⟨k - 1, by omega⟩
      have i1 : (0 : Int) ≤ ((q + 1 : Nat) : Int) - 1 := by omega
      have e1 : ((q + 1 : Nat) : Int) - 1 = (q : Int) := by omega
      rw [e1] at i1
      simp only [e1]
      have i2 : (q : Int) < (len : Int) := by omega
      have w1 : IntKind.i64.wrap ((q : Int) - 1) = (q : Int) - 1 := IntWalk.i64_in _ (by omega)
      obtain ⟨ba, ln, co, nm, es⟩ : ∃ ba ln co nm, L[q]? = some ⟨ba, ln, co, nm⟩ := ⟨_, _, _, _, List.getElem?_eq_getElem (by rw [HL.out.1]; omega)⟩
      obtain ⟨_, ga, o, rfl, hgw, e0, e1, e2, e3⟩ := (HL.out.2.below HB.out.2).get es
      have HDR := Lib.hid (drop_at es)
      clear es
      cases ba with
      | true =>
        have HN : Hid (EV (wr.alloc (.cells #[.int .i64 ln, .int .i64 co, .iface T p] 48)) (L.drop q) e (.iface 46 (.pointer (some ⟨wr.heap.size, 0, none⟩))) ∧ Below w.heap.size w (wr.alloc (.cells #[.int .i64 ln, .int .i64 co, .iface T p] 48))) := Lib.hid ⟨by
          rw [HDR.out]
          exact ⟨wr.heap.size, .iface T p, HB.out.1.below ((Below.refl _ _).alloc (Nat.le_refl _) _), Or.inl ⟨rfl, rfl, Blk.newA _ _ _⟩⟩, HB.out.2.alloc HB.out.2.size _⟩
        go_wp2_with fail
        go_roundw
        case rel => exact ⟨q, _, _, rfl, rfl, by omega, HN⟩
        case measure => simp [intOf]
      | false =>
        go_wp2_with (go_at_call 18; (with_reducible refine (fa_within nm T p _).mono ?_); rintro r1 W3 ⟨b, rfl, h1, h2⟩; have HN : Hid (EV W3 (L.drop q) e (.iface 49 (.pointer (some ⟨b, 0, none⟩))) ∧ Below w.heap.size w W3) := Lib.hid ⟨by
          rw [HDR.out]
          exact ⟨b, .iface T p, HB.out.1.below h2, Or.inr ⟨rfl, rfl, h1⟩⟩, HB.out.2.trans (h2.mono HB.out.2.size)⟩; clear h1 h2)
        go_roundw
        case rel => exact ⟨q, _, _, rfl, rfl, by omega, HN⟩
        case measure => simp [intOf]
end Go.Proofs.YtlofcccabdocgaaDoor
