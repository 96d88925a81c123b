/- P25.1: 4096 bytes may come at once, and no more: for every number of bytes around that. No condition. -/
import Derived.Test.YtkhkgnckimhekaaOpen
import Derived.WalkKit
import Derived.ProofKit
import Derived.OpenShut
import Derived.Test.YtkhkgnckimhekaaWireWalks
namespace Go.Proofs.Ytkhkgnckimhekaa.wireLong
open Go.Joins Go.ChangeShapes Go.WideShapes Go.ChangeAt Go.RowKit Go.Deep
open Go.ChangeMaps (open_string)
set_option linter.unusedSimpArgs false
set_option linter.unusedVariables false

def lenV : Value → Nat
  | .slice _ n _ => n
  | _ => 0
def aS (k : Nat) : ByteArray := ⟨Array.replicate k 97⟩
theorem aS_size (k : Nat) : (aS k).size = k := by simp [aS, ByteArray.size]
theorem bytes_a {W : World} {B g cap k : Nat} (h : W.ownsRow B 5 1 (.slice (some ⟨g, 0, none⟩) k cap) k (List.replicate k (.int .u8 97))) : Lib.Bytes W g 0 (aS k) := by
  have hc := h.cells (g := g) rfl
  intro i hi
  have hi2 : i < k := by simpa [aS_size] using hi
  have e : (aS k)[i] = 97 := by
    show (Array.replicate k (97 : UInt8))[i]'(by simpa using hi2) = 97
    simp
  have := hc i (.int .u8 97) (by simp [hi2])
  rw [e]
  have e2 : (({ block := g, off := 0, spot := none } : Addr).add i) = ⟨g, 0 + i, none⟩ := by simp [Addr.add]; exact fun h => h.symm
  rw [e2] at this
  exact this
set_option maxHeartbeats 600000 in
theorem refuse_long (b : Nat) (v : Value) (se re : Nat) (s : ByteArray) (e0 : Bool) (w : World) (hs : 4096 < s.size) (h : WAt w b v false se re) :
    Calls Try.prog 10 #[.pointer (some ⟨b, 0, none⟩), .string s, .bool e0] w fun e w' => e = .returned (.bool false) ∧ w = w' := by
  obtain ⟨h0, h1, h2, h3, f0, f1, f2, f3⟩ := h
  go_enter Try.func10, Try.ntmps10
  go_wp2
  go_ret
  exact ⟨rfl, rfl⟩
theorem len_any (b : Nat) (a : Option Addr) (len cap : Nat) (en : Bool) (se re : Nat) (w : World) (h : WAt w b (.slice a len cap) en se re) :
    Calls Try.prog 18 #[.pointer (some ⟨b, 0, none⟩)] w fun e w' => e = .returned (.int .i64 len) ∧ w = w' := by
  obtain ⟨h0, h1, h2, h3, f0, f1, f2, f3⟩ := h
  go_enter Try.func18, Try.ntmps18
  go_wp2
  go_ret
  exact ⟨rfl, rfl⟩
theorem eof_any (b : Nat) (v : Value) (en : Bool) (se re : Nat) (w : World) (h : WAt w b v en se re) :
    Calls Try.prog 21 #[.pointer (some ⟨b, 0, none⟩)] w fun e w' => e = .returned (.bool en) ∧ w = w' := by
  obtain ⟨h0, h1, h2, h3, f0, f1, f2, f3⟩ := h
  go_enter Try.func21, Try.ntmps21
  go_wp2
  go_ret
  exact ⟨rfl, rfl⟩
set_option maxHeartbeats 2000000 in

theorem walk (a0 : Int) (w : World) (w0 : (Lit.int .u8 a0).wf = true) :
    Calls Try.prog 5 #[.int .u8 a0] w fun e w' => e = .returned (.bool true) ∧ Below w.heap.size w w' := by
  have bi : 0 ≤ a0 ∧ a0 ≤ 255 := bounds_u8 w0
  obtain ⟨i0, hi, hz0, hz1, hz2⟩ := info_parts info5
  have HI := Lib.hid hi
  have HI0 := Lib.hid hz0
  have HI1 := Lib.hid hz1
  have HI2 := Lib.hid hz2
  clear hi hz0 hz1 hz2
  obtain ⟨j, hj⟩ : ∃ j : Nat, a0 % 16 = (j : Int) := ⟨(a0 % 16).toNat, by omega⟩
  have hj15 : j ≤ 15 := by omega
  go_enter Try.func5, Try.ntmps5
  go_wp2
  have O0 : Hid ((w.alloc (Obj.cells #[] 5)).ownsRow w.heap.size 5 1 (.slice (some ⟨w.heap.size, 0, none⟩) 0 0) 0 (List.replicate 0 (.int .u8 97))) := by
    refine Lib.hid ⟨rfl, .inr ⟨w.heap.size, 0, #[], rfl, Nat.le_refl _, ?_, Nat.le_refl _, Nat.zero_le _, rfl, rfl⟩⟩
    exact Array.getElem?_push_size
  have B0 : Hid (Below w.heap.size w (w.alloc (Obj.cells #[] 5))) := Lib.hid ((Below.refl _ _).alloc (Nat.le_refl _) _)
  go_loopw [3] (fun v wr => ∃ (k : Nat) (a : Option Addr) (c : Nat), v = .slice a k c ∧ k ≤ 4090 + j ∧ Hid (wr.ownsRow w.heap.size 5 1 (.slice a k c) k (List.replicate k (.int .u8 97))) ∧ Hid (Below w.heap.size w wr)) (fun v _ => 5000 - lenV v)
  case atStart => exact ⟨0, _, _, rfl, by omega, O0, B0⟩
  case round =>
    clear O0 B0
    obtain ⟨k, a, c, rfl, hk, HO, HB⟩ := hrel
    by_cases hlt : k < 4090 + j
    · go_wp2_with (at_builtin; refine wpList_append_own _ rfl _ _ 42 rfl w.heap.size 5 i0 (.int .u8 0) 1 1 Try.underlying42 HI.out HI0.out HI1.out HI2.out rfl (by decide) _ _ _ rfl (HO.out.alloc _) ⟨wr.heap.size, 0, none⟩ 1 1 [.int .u8 97] rfl rfl ?c1 ?c2 ?c3 ?c4 ?c5 ?_)
      case c1 =>
        intro j u hj
        match j, hj with
        | 0, hj => simp at hj; subst hj; simp [Addr.add]
      case c2 => intro u hu; simp at hu; subst hu; rfl
      case c3 => unfold maxLen; omega
      case c4 => omega
      case c5 => have := HB.out.size; simp; omega
      intro v' w1 hown' hgrow _
      obtain ⟨a', c', rfl⟩ := own_shape hown'
      have HO' : Hid (w1.ownsRow w.heap.size 5 1 (.slice a' (k + 1) c') (k + 1) (List.replicate (k + 1) (.int .u8 97))) := by
        rw [Hid, List.replicate_succ']; exact hown'
      have HB' : Hid (Below w.heap.size w w1) := Lib.hid ((HB.out.alloc HB.out.size _).grown hgrow (by have := HB.out.size; simp; omega) (fun j hj => (HO.out.lt j hj).1))
      clear hown' hgrow
      go_wp2
      go_roundw
      case rel => exact ⟨k + 1, a', c', rfl, by omega, HO', HB'⟩
      case measure => simp [lenV]; omega
    · obtain ⟨g, rfl⟩ : ∃ g, a = some ⟨g, 0, none⟩ := by
        rcases HO.out.2 with ⟨_, h0⟩ | ⟨g, cap, cur, hv, _⟩
        · omega
        · exact ⟨g, by simpa using congrArg (fun v => match v with | .slice x _ _ => x | _ => none) hv⟩
      have HW : Hid (WAt (wr.alloc (Obj.cells #[.slice none 0 0, .bool false, .int .i64 0, .int .i64 0] 47)) wr.heap.size (.slice none 0 0) false 0 0) :=
        ⟨by simp [go_sem], by simp [go_sem], by simp [go_sem], by simp [go_sem], by simp [go_sem], by simp [go_sem], by simp [go_sem], by simp [go_sem]⟩
      have hcv := Lib.run_convert_whole (P := Try.prog) (wr.alloc (Obj.cells #[.slice none 0 0, .bool false, .int .i64 0, .int .i64 0] 47)) 42 5 9 Try.underlying42 Try.underlying5 Try.underlying9 g 0 (aS k) (bytes_a (HO.out.alloc _)) c
      rw [aS_size] at hcv
      have hsz := aS_size k
      have BA : Hid (Below w.heap.size w (wr.alloc (Obj.cells #[.slice none 0 0, .bool false, .int .i64 0, .int .i64 0] 47))) := Lib.hid (HB.out.alloc HB.out.size _)
      by_cases h96 : k ≤ 4096
      · go_wp2_with (go_at_call 7; go_in)
        refine (offer_any wr.heap.size (wr.heap.size + 1) (.slice none 0 0) 0 [] 0 0 (aS k) true _ (by omega) (by omega) (by omega) (by omega) (by simp) HW.out (World.ownsRow_nil _ _ _ _)).mono ?_
        rintro e w1 ⟨v1, rfl, p1, o1, b1⟩
        obtain ⟨sa, sc, rfl⟩ := own_shape o1
        have P1 := Lib.hid p1
        have B1 : Hid (Below w.heap.size w w1) := Lib.hid (BA.out.trans (b1.mono HB.out.size))
        clear p1 o1 b1 hcv
        rw [hsz] at P1
        go_wp2_with (first | (go_at_call 18; refine (len_any _ _ _ _ _ _ _ _ P1.out).mono ?_; rintro e w' ⟨rfl, rfl⟩) | (go_at_call 21; refine (eof_any _ _ _ _ _ _ P1.out).mono ?_; rintro e w' ⟨rfl, rfl⟩) | (go_at_call 16; refine (lives_any _).mono ?_; rintro e w4 ⟨rfl, hb⟩))
        go_ret
        exact ⟨rfl, B1.out.trans (Below.mono (by assumption) B1.out.size)⟩
      · go_wp2_with (go_at_call 7; go_in)
        refine (refuse_long wr.heap.size _ 0 0 (aS k) true _ (by omega) HW.out).mono ?_
        rintro e w1 ⟨rfl, rfl⟩
        clear hcv
        go_wp2_with (first | (go_at_call 18; refine (len_any _ _ _ _ _ _ _ _ HW.out).mono ?_; rintro e w' ⟨rfl, rfl⟩) | (go_at_call 21; refine (eof_any _ _ _ _ _ _ HW.out).mono ?_; rintro e w' ⟨rfl, rfl⟩) | (go_at_call 16; refine (lives_any _).mono ?_; rintro e w4 ⟨rfl, hb⟩))
        go_ret
        exact ⟨rfl, BA.out.trans (Below.mono (by assumption) BA.out.size)⟩

set_option maxRecDepth 100000 in
theorem lifted (os : Os) (started : os.Started) (H : Type) (enc : TypeId × Value → H) :
    ReturnsInHanded {} Try.checked os 5 .any (Rows.wireLongSpec.pre6 enc Try.prog Try.f5 Rows.wireLongRow.domain false) (Rows.wireLongSpec.post enc Try.prog Try.f5 false true false false) := by
  refine returnsInHanded_of_change (C := Try.checked) ownKn started (by kernel_rfl) Try.func5
    (ChangeSpec.witness6 (enc := enc) (C := Try.checked) false ⟨#[], #[.int .u8 0], []⟩ 8 (by kernel_rfl) (by kernel_rfl) (by kernel_rfl) (by kernel_rfl)) ?_
  intro W base args ds gs before hval0 hW hcnd _
  have hval : ∀ (j : Nat) t v, Try.f5.params[j]? = some t → args[j]? = some v → Value.okWide Try.prog W .any base t v := hval0
  have hW' := hW
  obtain ⟨p, q, hA0, hV, rfl, hfz, hnd⟩ := hW
  have hA : DataW.TrodAll enc Try.prog W 0 (fun _ => true) true Try.f5.params.toList args.toList ds p := hA0
  rw [Try.params5] at hA hval
  obtain ⟨v0, vs0, d0, ds0, p0, q0, hargs, rfl, rfl, h0, r0⟩ := trodAll_cons hA
  obtain ⟨rfl, rfl, rfl⟩ := trodAll_nil r0
  obtain rfl : args = #[v0] := by cases args; simp_all
  obtain ⟨rfl, rfl⟩ := trodVars_none hV
  have k0 := h0
  have lt0 : ∀ x ∈ p0, x.block < W.heap.size := by obtain ⟨m, hm⟩ := k0; exact DataW.trod_lt m _ _ _ hm
  obtain ⟨a0, rfl, rfl, rfl, w0⟩ := open_int Try.underlying5 (hval 0 5 v0 rfl rfl) h0
  clear hA0 hval0
  refine (walk a0 W w0).mono fun e W' ⟨he, bel⟩ => ?_
  subst he
  exact ⟨_, rfl, _, _, _, [], _, [], hW', trodAll_mk1 (shut_bool Try.underlying4 _), (trodAll_cons_mk (Below.trod laidOut (by kernel_rfl) (of_decide_eq_true (by kernel_rfl)) k0 bel lt0) trodAll_mk0), rfl, bel.frame _, fun h => by cases h⟩

theorem over : Rows.wireLongRow.holds Try.pinned (OpenSpec.ofChange Rows.wireLongSpec) :=
  OpenClaim.holds_of_wide 5 Try.f5 rfl rfl rfl rfl rfl rfl rfl ⟨rfl, rfl, rfl, rfl, rfl⟩ rfl rfl rfl rfl rfl (by kernel_rfl) Try.func5 (by kernel_rfl)
    (of_decide_eq_true (by kernel_rfl)) (by unfold Func.isWrapper; first | (rw [if_pos (by decide +kernel)]; kernel_rfl) | (rw [if_neg (by decide +kernel)]; exact ⟨rfl, rfl⟩))
    (fun os started H enc _ => lifted os started H enc)

/-- The statement. -/
theorem proved : Rows.WireLongSaid := over
#print axioms proved
end Go.Proofs.Ytkhkgnckimhekaa.wireLong
