/- Faults: Text. -/
import Derived.Test.YtlofcccabdocgaaDoorFa5
import Derived.WalkKit
import Derived.ProofKit
import Derived.Handy
import Derived.WalkLawsBesides
import Derived.WalkSpells
import Derived.Lib.Hide
import Derived.Lib.SliceRun
import Derived.Deep.RegionLaw
import Derived.RegionTactic
import Derived.ChangeAlike
import Derived.WalkSmall
import Derived.Deep.QuietTactic
import Derived.BigQuiet
import Derived.OwnWalk
import Derived.Outline
import Derived.Deep.CutRange
import Derived.Deep.CutBlock
import Derived.LoopTactic
namespace Go.Proofs.YtlofcccabdocgaaDoor
open Go.ChangeShapes Go.WideShapes Go.ChangeAt Go.RowKit
set_option linter.unusedSimpArgs false
set_option linter.unusedVariables false

/-- What Text works on: its builder X, the newest of w. -/
structure FT (w W : World) (X : Nat) (p : Value) (r : Option Addr) (n c : Nat) (S : ByteArray) : Prop where
  bd : BD W X X p r n c S
  be : Below X w W
  le : X ≤ W.heap.size
theorem FT.below {w W W' : World} {X : Nat} {p : Value} {r : Option Addr} {n c : Nat} {S : ByteArray} (h : FT w W X p r n c S) (k : Below W.heap.size W W') : FT w W' X p r n c S :=
  ⟨h.bd.same (Chg.of_fresh k), h.be.trans (k.mono h.le), Nat.le_trans h.le k.size⟩
/-- How much a builder holds. -/
def Fa.bl : Option Value → Nat
  | some (.slice _ n _) => n
  | _ => 0
theorem FT.bl {w W : World} {X : Nat} {p : Value} {r : Option Addr} {n c : Nat} {S : ByteArray} (h : FT w W X p r n c S) : Fa.bl (W.cell? ⟨X, 1, none⟩) = S.size := by
  rw [h.bd.1.cell (i := 1) rfl]; exact h.bd.2.2.1
theorem FT.wr {w W W' : World} {X : Nat} {p p' : Value} {r r' : Option Addr} {n c n' c' : Nat} {S S' : ByteArray} (h : FT w W X p r n c S) (q1 : BD W' X X p' r' n' c' S') (q2 : Chg (X :: rvB r) W W') : FT w W' X p' r' n' c' S' :=
  ⟨q1, q2.onto h.be h.le (fun y hy => by
    rcases List.mem_cons.1 hy with e | e
    · omega
    · exact (h.bd.2.1.lt y e).1), Nat.le_trans h.le q2.size⟩
set_option maxRecDepth 20000 in
set_option maxHeartbeats 16000000 in
theorem fa_text (L : List Wp) (len : Nat) (hl : L.length = len) (hlm : len ≤ 1000) (hok : ∀ x ∈ L, x.ok) (hn : ∀ x ∈ L, x.n.size ≤ 100) (e : Int) (he : Fa.i64 e) (h0 : e ≠ 0) (v : Value) (S : ByteArray) (hS : Fa.txt L e = S) (w : World) (htab : Lib.TabIs Tryd.prog w "internal/strconv.uint64pow10" .u64 Lib.pow10Tab) (HE : EV w L e v) :
    Calls Tryd.prog 14 #[v] w fun r w' => r = .returned (.string S) ∧ Below w.heap.size w w' := by
  obtain ⟨X, hX⟩ : ∃ X, w.heap.size = X := ⟨_, rfl⟩
  have k0 : Below w.heap.size w (w.alloc (.cells #[.pointer none, .slice none 0 0] 65)) := (Below.refl _ _).alloc (Nat.le_refl _) _
  have HS0 : Hid (FT w (w.alloc (.cells #[.pointer none, .slice none 0 0] 65)) X (.pointer none) none 0 0 (Fa.pre (L.take 0))) := Lib.hid ⟨⟨by rw [← hX]; exact Blk.newA _ _ _, RM.nil _ _ _ _ (by rw [World.size_alloc]; omega), rfl, Nat.le_refl _, Or.inl rfl⟩, by rw [← hX]; exact k0, by rw [World.size_alloc]; omega⟩
  obtain ⟨T0, p0, hv0⟩ := HE.ne
  have HL : Hid (L.length = len ∧ (∀ x ∈ L, x.ok) ∧ (∀ x ∈ L, x.n.size ≤ 100) ∧ Fa.i64 e ∧ Fa.txt L e = S ∧ w.heap.size = X ∧ Lib.TabIs Tryd.prog w "internal/strconv.uint64pow10" .u64 Lib.pow10Tab ∧ EV w (L.drop 0) e (.iface T0 p0)) := Lib.hid ⟨hl, hok, hn, he, hS, hX, htab, by rw [← hv0]; exact HE⟩
  subst hv0
  clear hl hok hn he hS htab HE k0
  go_enter Tryd.func14, Tryd.ntmps14
  go_upto_region 2 with fail
  clear hX
  revert HS0
  generalize (w.alloc (.cells #[.pointer none, .slice none 0 0] 65)) = W1
  intro HS0
  go_loopw [0, 4] (fun v _ wr => ∃ (p : Value) (rb : Option Addr) (nb cb : Nat) (S1 : ByteArray), Hid (FT w wr X p rb nb cb S1 ∧ ((∃ j T q, v = .iface T q ∧ j ≤ len ∧ EV w (L.drop j) e (.iface T q) ∧ Fa.pre (L.take j) = S1) ∨ (v = .nilIface ∧ S1 = S)))) (fun _ _ wr => 1000000 - Fa.bl (wr.cell? ⟨X, 1, none⟩))
  case atStart => exact ⟨_, _, _, _, _, Lib.hid ⟨HS0.out, Or.inl ⟨0, T0, p0, rfl, by omega, HL.out.2.2.2.2.2.2.2, rfl⟩⟩⟩
  case round =>
    clear HS0
    obtain ⟨p, rb, nb, cb, S1, HB⟩ := hrel
    rcases HB.out.2 with ⟨j, T, q, rfl, hj, hE, hS1⟩ | ⟨rfl, rfl⟩
    · have hpl := Fa.pre_len (L := L.take j) (fun y hy => HL.out.2.1 y (List.mem_of_mem_take hy)) (fun y hy => HL.out.2.2.1 y (List.mem_of_mem_take hy))
      rw [hS1, List.length_take, HL.out.1] at hpl
      have hnb : nb = S1.size := HB.out.1.bd.2.2.1
      have hbl := HB.out.1.bl
      by_cases hjl : j < len
      · obtain ⟨ba, ln, co, nm, es⟩ : ∃ ba ln co nm, L[j]? = some ⟨ba, ln, co, nm⟩ := ⟨_, _, _, _, List.getElem?_eq_getElem (by rw [HL.out.1]; exact hjl)⟩
        have hxo := HL.out.2.1 _ (List.mem_of_getElem? es)
        have hxn := HL.out.2.2.1 _ (List.mem_of_getElem? es)
        obtain ⟨S2, hS2⟩ : ∃ S2, Fa.w ⟨ba, ln, co, nm⟩ = S2 := ⟨_, rfl⟩
        obtain ⟨S3, hS3⟩ : ∃ S3, S1 ++ S2 = S3 := ⟨_, rfl⟩
        have hz2 := Fa.w_len hxo hxn
        have hp2 := Fa.w_pos ⟨ba, ln, co, nm⟩
        rw [hS2] at hz2 hp2
        have hz3 : S3.size = S1.size + S2.size := by rw [← hS3, ByteArray.size_append]
        have hpre : Fa.pre (L.take (j + 1)) = S3 := by rw [take_snocE es, Fa.pre_snoc, hS1, hS2, hS3]
        have hsz : nb + S2.size ≤ 1000000 := by omega
        rw [drop_at es] at hE
        obtain ⟨b, u, hE2, hW⟩ := hE
        obtain ⟨T2, q2, rfl⟩ := hE2.ne
        have HV := Lib.hid (And.intro hxo (And.intro hxn (And.intro hS2 (And.intro hS3 (And.intro hsz (And.intro hpre hE2))))))
        have HF := Lib.hid HB.out.1
        have HZ := Lib.hid (And.intro hbl (And.intro hz3 (And.intro hp2 hz2)))
        clear hxo hxn hS2 hS3 hsz hpre hE2 HB es hz2 hp2 hz3 hS1 hbl
        dsimp only at hW
        rcases hW with ⟨rfl, hv, hk⟩ | ⟨rfl, hv, hk⟩
        · injection hv with hv1 hv2
          subst hv1 hv2
          have HK := Lib.hid hk
          clear hk
          have HIA : Hid (Fa.i64 ln ∧ Fa.i64 co) := Lib.hid HV.out.1.2
          have HSA : Hid (Fa.w ⟨true, ln, co, ByteArray.empty⟩ = S2) := Lib.hid (by rw [← HV.out.2.2.1]; rfl)
          go_wp2_with (first
            | (go_at_call 28; (with_reducible refine (fa_outerA b ln co (.iface T2 q2) HIA.out.1 HIA.out.2 S2 HSA.out _ (tab_below (by rw [HL.out.2.2.2.2.2.1]; exact HF.out.be) HL.out.2.2.2.2.2.2.1) (HK.out.chg (l := []) (Chg.of_fresh (by rw [HL.out.2.2.2.2.2.1]; exact HF.out.be)) (by simp))).mono ?_); rintro r9 V3 ⟨rfl, bb⟩; have HG := Lib.hid (HF.out.below bb); clear bb)
            | (go_at_call 29; (refine (le_wstr X X p rb nb cb S1 S2 S3 HV.out.2.2.2.1 HV.out.2.2.2.2.1 _ HG.out.le HG.out.bd).mono ?_); rintro r9 V4 ⟨p4, rb4, nb4, cb4, v4, rfl, q1, q2', q3⟩; have HJ4 := Lib.hid (HG.out.wr q1 q2'); clear q1 q2' q3))
          go_roundw
          case rel => exact ⟨_, _, _, _, _, Lib.hid ⟨HJ4.out, Or.inl ⟨j + 1, _, _, rfl, by omega, HV.out.2.2.2.2.2.2, HV.out.2.2.2.2.2.1⟩⟩⟩
          case measure => rw [HJ4.out.bl, HZ.out.1]; have := HZ.out.2; omega
        · injection hv with hv1 hv2
          subst hv1 hv2
          have HK := Lib.hid hk
          clear hk
          have HSA : Hid (Fa.w ⟨false, 0, 0, nm⟩ = S2) := Lib.hid (by rw [← HV.out.2.2.1]; rfl)
          go_wp2_with (first
            | (go_at_call 28; (with_reducible refine (fa_outerI b nm (.iface T2 q2) HV.out.2.1 S2 HSA.out _ (HK.out.chg (l := []) (Chg.of_fresh (by rw [HL.out.2.2.2.2.2.1]; exact HF.out.be)) (by simp))).mono ?_); rintro r9 V3 ⟨rfl, bb⟩; have HG := Lib.hid (HF.out.below bb); clear bb)
            | (go_at_call 29; (refine (le_wstr X X p rb nb cb S1 S2 S3 HV.out.2.2.2.1 HV.out.2.2.2.2.1 _ HG.out.le HG.out.bd).mono ?_); rintro r9 V4 ⟨p4, rb4, nb4, cb4, v4, rfl, q1, q2', q3⟩; have HJ4 := Lib.hid (HG.out.wr q1 q2'); clear q1 q2' q3))
          go_roundw
          case rel => exact ⟨_, _, _, _, _, Lib.hid ⟨HJ4.out, Or.inl ⟨j + 1, _, _, rfl, by omega, HV.out.2.2.2.2.2.2, HV.out.2.2.2.2.2.1⟩⟩⟩
          case measure => rw [HJ4.out.bl, HZ.out.1]; have := HZ.out.2; omega
      · obtain rfl : j = len := by omega
        rw [List.drop_eq_nil_of_le (by rw [HL.out.1]; exact Nat.le_refl _)] at hE
        have hE' : (Value.iface T q) = .iface 23 (.int .i64 e) := hE
        injection hE' with hv1 hv2
        subst hv1 hv2
        obtain ⟨S2, hS2⟩ : ∃ S2, Fa.er e = S2 := ⟨_, rfl⟩
        have hz2 := Fa.er_len HL.out.2.2.2.1
        rw [hS2] at hz2
        have hS3 : S1 ++ S2 = S := by rw [← HL.out.2.2.2.2.1, ← hS2, ← hS1, List.take_of_length_le (by rw [HL.out.1]; exact Nat.le_refl _)]; rfl
        have hz3 : S.size = S1.size + S2.size := by rw [← hS3, ByteArray.size_append]
        have hsz : nb + S2.size ≤ 1000000 := by omega
        have HV := Lib.hid (And.intro hS2 (And.intro hS3 hsz))
        have HF := Lib.hid HB.out.1
        have HZ := Lib.hid (And.intro hbl (And.intro hz3 hz2))
        clear hS2 hS3 hsz hE HB hz2 hz3 hS1 hbl
        go_wp2_with (first
          | (go_at_call 28; (with_reducible refine (fa_outerE e HL.out.2.2.2.1 h0 S2 HV.out.1 _ (tab_below (by rw [HL.out.2.2.2.2.2.1]; exact HF.out.be) HL.out.2.2.2.2.2.2.1)).mono ?_); rintro r9 V3 ⟨rfl, bb⟩; have HG := Lib.hid (HF.out.below bb); clear bb)
          | (go_at_call 29; (refine (le_wstr X X p rb nb cb S1 S2 S HV.out.2.1 HV.out.2.2 _ HG.out.le HG.out.bd).mono ?_); rintro r9 V4 ⟨p4, rb4, nb4, cb4, v4, rfl, q1, q2', q3⟩; have HJ4 := Lib.hid (HG.out.wr q1 q2'); clear q1 q2' q3))
        go_roundw
        case rel => exact ⟨_, _, _, _, _, Lib.hid ⟨HJ4.out, Or.inr ⟨rfl, rfl⟩⟩⟩
        case measure => rw [HJ4.out.bl, HZ.out.1]; have := HZ.out.2; omega
    · have HF := Lib.hid HB.out.1
      clear HB
      go_wp2_with (go_at_call 30; (with_reducible refine (le_bstr HF.out.bd HF.out.le).mono ?_); rintro r9 V5 ⟨rfl, bb⟩; have HE5 : Hid (Below X w V5) := Lib.hid (HF.out.be.trans bb); clear bb)
      go_ret
      exact ⟨rfl, by rw [HL.out.2.2.2.2.2.1]; exact HE5.out⟩
end Go.Proofs.YtlofcccabdocgaaDoor
