/- Faults: for the law on makes. -/
import Derived.Test.YtlofcccabdocgaaDoorFa14
import Derived.LaidEql
import Derived.Stop.Asserts
import Derived.RowKitTokens
import Derived.Deep.LoopGhost
import Derived.Defers
import Derived.Recover
import Derived.WalkKit
import Derived.ProofKit
import Derived.Handy
import Derived.WalkLawsBesides
import Derived.WalkSpells
import Derived.Lib.Hide
import Derived.Lib.SliceRun
import Derived.Deep.RegionLaw
import Derived.RegionTactic
import Derived.ChangeAlike
import Derived.WalkSmall
import Derived.Deep.QuietTactic
import Derived.BigQuiet
import Derived.OwnWalk
import Derived.Outline
import Derived.Deep.CutRange
import Derived.Deep.CutBlock
import Derived.LoopTactic
namespace Go.Proofs.YtlofcccabdocgaaDoor
open Go.ChangeShapes Go.WideShapes Go.ChangeAt Go.RowKit
set_option linter.unusedSimpArgs false
set_option linter.unusedVariables false

open Go.Extern.Stop Go.Stop Go.Extern
theorem WL.one {w : World} {g : Nat} {a : Bool} {l c : Int} {n : ByteArray} {T : TypeId} (h : Blk w g [.bool a, .int .i64 l, .int .i64 c, .string n] T) (h1 : n.size ≤ maxLen) (h2 : Fa.i64 l) (h3 : Fa.i64 c) : WL w (some ⟨g, 0, none⟩) [⟨a, l, c, n⟩] := fun j x hj => by
  cases j with
  | zero =>
    simp at hj
    subst hj
    exact ⟨⟨h1, h2, h3⟩, g, 0, rfl, h.lt, fun q v hq => by
      rw [Nat.zero_add, Nat.zero_mul, Nat.zero_add]; exact h.cell hq⟩
  | succ j => simp at hj
theorem fa_one_ok {a : Bool} {l c : Int} {n : ByteArray} (h1 : n.size ≤ 100) (h2 : Fa.i64 l) (h3 : Fa.i64 c) : (∀ x ∈ ([⟨a, l, c, n⟩] : List Wp), x.ok) ∧ (∀ x ∈ ([⟨a, l, c, n⟩] : List Wp), x.n.size ≤ 100) := by
  refine ⟨fun x hx => ?_, fun x hx => ?_⟩
  · obtain rfl := List.mem_singleton.1 hx
    exact ⟨by unfold maxLen; dsimp only; omega, h2, h3⟩
  · obtain rfl := List.mem_singleton.1 hx
    exact h1
/-- What FaultMakes works on. -/
structure FM (w W : World) (X3 X8 bn ba bi : Nat) (l c e : Int) (nm : ByteArray) : Prop where
  b3 : Blk W X3 [.int .i64 l, .int .i64 c] 33
  b8 : Blk W X8 [.int .i64 l, .int .i64 c] 33
  bn : Blk W bn [.int .i64 l, .int .i64 c, .iface 23 (.int .i64 e)] 48
  ba : Blk W ba [.int .i64 l, .int .i64 c, .iface 23 (.int .i64 e)] 48
  bi : Blk W bi [.string nm, .iface 23 (.int .i64 e)] 51
  be : Below w.heap.size w W
theorem FM.below {w W W' : World} {X3 X8 bn ba bi : Nat} {l c e : Int} {nm : ByteArray} (h : FM w W X3 X8 bn ba bi l c e nm) (k : Below W.heap.size W W') : FM w W' X3 X8 bn ba bi l c e nm :=
  ⟨h.b3.chg (l := []) (Chg.of_fresh k) (by simp), h.b8.chg (l := []) (Chg.of_fresh k) (by simp), h.bn.chg (l := []) (Chg.of_fresh k) (by simp), h.ba.chg (l := []) (Chg.of_fresh k) (by simp), h.bi.chg (l := []) (Chg.of_fresh k) (by simp), h.be.trans (k.mono h.be.size)⟩
theorem FM.s2 {w W : World} {X3 X8 bn ba bi : Nat} {l c e : Int} {nm : ByteArray} (h : FM w W X3 X8 bn ba bi l c e nm) : W.cell? ⟨X3, 0, none⟩ = some (.int .i64 l) ∧ W.cell? ⟨X3, 1, none⟩ = some (.int .i64 c) := ⟨h.b3.cell (i := 0) rfl, h.b3.cell (i := 1) rfl⟩
theorem fa_txt_len {x : Wp} {e : Int} (h : x.ok) (hn : x.n.size ≤ 100) (he : Fa.i64 e) : (Fa.txt [x] e).size ≤ 1000 := by
  have h1 := Fa.pre_len (L := [x]) (by intro y hy; obtain rfl := List.mem_singleton.1 hy; exact h) (by intro y hy; obtain rfl := List.mem_singleton.1 hy; exact hn)
  have h2 := Fa.er_len he
  unfold Fa.txt
  rw [ByteArray.size_append]
  have : ([x] : List Wp).length = 1 := rfl
  omega
theorem EV.nil (W : World) (e : Int) : EV W [] e (.iface 23 (.int .i64 e)) := rfl
theorem EV.at {W : World} {b : Nat} {l c e : Int} (h : Blk W b [.int .i64 l, .int .i64 c, .iface 23 (.int .i64 e)] 48) : EV W [⟨true, l, c, ByteArray.empty⟩] e (.iface 46 (.pointer (some ⟨b, 0, none⟩))) := ⟨b, _, rfl, Or.inl ⟨rfl, rfl, h⟩⟩
theorem EV.in {W : World} {b : Nat} {nm : ByteArray} {e : Int} (h : Blk W b [.string nm, .iface 23 (.int .i64 e)] 51) : EV W [⟨false, 0, 0, nm⟩] e (.iface 49 (.pointer (some ⟨b, 0, none⟩))) := ⟨b, _, rfl, Or.inr ⟨rfl, rfl, h⟩⟩
set_option maxRecDepth 20000 in
set_option maxHeartbeats 16000000 in
theorem fa_Aerr (b : Nat) (l c e : Int) (hl : Fa.i64 l) (hc : Fa.i64 c) (he : Fa.i64 e) (h0 : e ≠ 0) (S : ByteArray) (hS : Fa.txt [⟨true, l, c, ByteArray.empty⟩] e = S) (w : World) (htab : Lib.TabIs Tryd.prog w "internal/strconv.uint64pow10" .u64 Lib.pow10Tab) (hb : Blk w b [.int .i64 l, .int .i64 c, .iface 23 (.int .i64 e)] 48) :
    Calls Tryd.prog 19 #[.pointer (some ⟨b, 0, none⟩)] w fun r w' => r = .returned (.string S) ∧ Below w.heap.size w w' := by
  have HH := Lib.hid (And.intro (fa_one_ok (a := true) (n := ByteArray.empty) (by decide) hl hc) (And.intro he (And.intro hS (And.intro htab (EV.at hb)))))
  clear hl hc he hS htab hb
  go_enter Tryd.func19, Tryd.ntmps19
  go_wp2_with (go_at_call 14; (with_reducible refine (fa_text [⟨true, l, c, ByteArray.empty⟩] 1 rfl (by omega) HH.out.1.1 HH.out.1.2 e HH.out.2.1 h0 _ S HH.out.2.2.1 _ HH.out.2.2.2.1 HH.out.2.2.2.2).mono ?_); rintro r1 W3 ⟨rfl, q1⟩; have HB := Lib.hid q1; clear q1)
  go_ret
  exact ⟨rfl, HB.out⟩
set_option maxRecDepth 20000 in
set_option maxHeartbeats 16000000 in
theorem fa_Ierr (b : Nat) (nm : ByteArray) (e : Int) (hn : nm.size ≤ 100) (he : Fa.i64 e) (h0 : e ≠ 0) (S : ByteArray) (hS : Fa.txt [⟨false, 0, 0, nm⟩] e = S) (w : World) (htab : Lib.TabIs Tryd.prog w "internal/strconv.uint64pow10" .u64 Lib.pow10Tab) (hb : Blk w b [.string nm, .iface 23 (.int .i64 e)] 51) :
    Calls Tryd.prog 20 #[.pointer (some ⟨b, 0, none⟩)] w fun r w' => r = .returned (.string S) ∧ Below w.heap.size w w' := by
  have HH := Lib.hid (And.intro (fa_one_ok (a := false) (l := 0) (c := 0) hn (by unfold Fa.i64; omega) (by unfold Fa.i64; omega)) (And.intro he (And.intro hS (And.intro htab (EV.in hb)))))
  clear hn he hS htab hb
  go_enter Tryd.func20, Tryd.ntmps20
  go_wp2_with (go_at_call 14; (with_reducible refine (fa_text [⟨false, 0, 0, nm⟩] 1 rfl (by omega) HH.out.1.1 HH.out.1.2 e HH.out.2.1 h0 _ S HH.out.2.2.1 _ HH.out.2.2.2.1 HH.out.2.2.2.2).mono ?_); rintro r1 W3 ⟨rfl, q1⟩; have HB := Lib.hid q1; clear q1)
  go_ret
  exact ⟨rfl, HB.out⟩
set_option maxRecDepth 20000 in
set_option maxHeartbeats 16000000 in
theorem fa_newN (l c : Int) (w : World) : Calls Tryd.prog 17 #[.agg #[.int .i64 l, .int .i64 c], .int .i64 0] w fun r w' => r = .returned .nilIface ∧ Below w.heap.size w w' := by
  have H0 : Hid (Below w.heap.size w (w.alloc (.cells #[.int .i64 l, .int .i64 c] 33))) := Lib.hid ((Below.refl _ _).alloc (Nat.le_refl _) _)
  go_enter Tryd.func17, Tryd.ntmps17
  go_wp2_with fail
  go_ret
  exact ⟨rfl, H0.out⟩
set_option maxRecDepth 20000 in
set_option maxHeartbeats 16000000 in
theorem fa_withinN (nm : ByteArray) (w : World) : Calls Tryd.prog 18 #[.string nm, .nilIface] w fun r w' => r = .returned .nilIface ∧ w' = w := by
  go_enter Tryd.func18, Tryd.ntmps18
  go_wp2
  go_ret
  exact ⟨rfl, rfl⟩
set_option maxRecDepth 20000 in
set_option maxHeartbeats 16000000 in
theorem fa_textN (w : World) : Calls Tryd.prog 14 #[.nilIface] w fun r w' => r = .returned (.string ({ data := #[] } : ByteArray)) ∧ Below w.heap.size w w' := by
  obtain ⟨X, hX⟩ : ∃ X, w.heap.size = X := ⟨_, rfl⟩
  have k0 : Below w.heap.size w (w.alloc (.cells #[.pointer none, .slice none 0 0] 65)) := (Below.refl _ _).alloc (Nat.le_refl _) _
  have HS0 : Hid (FT w (w.alloc (.cells #[.pointer none, .slice none 0 0] 65)) X (.pointer none) none 0 0 ({ data := #[] } : ByteArray) ∧ w.heap.size = X) := Lib.hid ⟨⟨⟨by rw [← hX]; exact Blk.newA _ _ _, RM.nil _ _ _ _ (by rw [World.size_alloc]; omega), rfl, Nat.le_refl _, Or.inl rfl⟩, by rw [← hX]; exact k0, by rw [World.size_alloc]; omega⟩, hX⟩
  clear k0
  go_enter Tryd.func14, Tryd.ntmps14
  go_upto_region 2 with fail
  clear hX
  revert HS0
  generalize (w.alloc (.cells #[.pointer none, .slice none 0 0] 65)) = W1
  intro HS0
  go_loopw [0, 4] (fun v _ wr => v = .nilIface ∧ wr = W1) (fun _ _ _ => 0)
  case atStart => exact ⟨rfl, rfl⟩
  case round =>
    obtain ⟨rfl, rfl⟩ := hrel
    go_wp2_with (go_at_call 30; (with_reducible refine (le_bstr HS0.out.1.bd HS0.out.1.le).mono ?_); rintro r9 V5 ⟨rfl, bb⟩; have HE5 : Hid (Below X w V5) := Lib.hid (HS0.out.1.be.trans bb); clear bb)
    go_ret
    exact ⟨rfl, by rw [HS0.out.2]; exact HE5.out⟩
theorem fa_tx2 (l c e : Int) (nm : ByteArray) : Fa.txt [⟨false, 0, 0, nm⟩, ⟨true, l, c, ByteArray.empty⟩] e = ((({ data := #[105, 110, 32] } : ByteArray) ++ nm) ++ ({ data := #[58, 32] } : ByteArray)) ++ Fa.txt [⟨true, l, c, ByteArray.empty⟩] e := by
  unfold Fa.txt Fa.pre Fa.w
  simp only [List.foldl_cons, List.foldl_nil, Bool.false_eq_true, if_false, if_true, ByteArray.empty_append, ByteArray.append_assoc]
end Go.Proofs.YtlofcccabdocgaaDoor
