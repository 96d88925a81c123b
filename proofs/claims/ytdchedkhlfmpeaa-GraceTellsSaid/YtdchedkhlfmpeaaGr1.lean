/- Grace: where the first of a kind stands. -/
import Derived.Test.YtdchedkhlfmpeaaEv3
import Derived.WalkKit
import Derived.ProofKit
import Derived.Handy
import Derived.WalkLawsBesides
import Derived.WalkSpells
import Derived.Lib.Hide
import Derived.Lib.SliceRun
import Derived.Deep.RegionLaw
import Derived.RegionTactic
import Derived.ChangeAlike
import Derived.WalkSmall
import Derived.Deep.QuietTactic
import Derived.BigQuiet
import Derived.OwnWalk
import Derived.Outline
import Derived.Deep.CutRange
import Derived.Deep.CutBlock
import Derived.LoopTactic
namespace Go.Proofs.Ytdchedkhlfmpeaa
open Go.ChangeShapes Go.WideShapes Go.ChangeAt Go.RowKit
set_option linter.unusedSimpArgs false
set_option linter.unusedVariables false

def Gr.isk (kd : Int) (x : Ev) : Bool := x.k == kd
set_option maxRecDepth 20000 in
set_option maxHeartbeats 16000000 in
theorem gr_clo (k i n t : Int) (b : ByteArray) (e s0 s1 s2 s3 s4 s5 : Int) (bx : Nat) (id : Int) (r : Bool) (hr : Gr.isk id ⟨k, i, n, t, b, e, s0, s1, s2, s3, s4, s5⟩ = r) (w : World) (hbx : w.cell? ⟨bx, 0, none⟩ = some (.int .i64 id)) :
    Calls Try.prog 66 #[.agg #[.int .i64 k, .int .i64 i, .int .i64 n, .int .i64 t, .string b, .int .i64 e, .int .i64 s0, .int .i64 s1, .int .i64 s2, .int .i64 s3, .int .i64 s4, .int .i64 s5], .pointer (some ⟨bx, 0, none⟩)] w fun e w' => e = .returned (.bool r) ∧ Below w.heap.size w w' := by
  unfold Gr.isk at hr
  dsimp only at hr
  have hlt := World.block_lt_of_cell? _ _ hbx
  dsimp only at hlt
  have H0 : Hid (Blk (w.alloc (.cells #[.int .i64 k, .int .i64 i, .int .i64 n, .int .i64 t, .string b, .int .i64 e, .int .i64 s0, .int .i64 s1, .int .i64 s2, .int .i64 s3, .int .i64 s4, .int .i64 s5] 47)) w.heap.size [.int .i64 k, .int .i64 i, .int .i64 n, .int .i64 t, .string b, .int .i64 e, .int .i64 s0, .int .i64 s1, .int .i64 s2, .int .i64 s3, .int .i64 s4, .int .i64 s5] 47 ∧ (w.alloc (.cells #[.int .i64 k, .int .i64 i, .int .i64 n, .int .i64 t, .string b, .int .i64 e, .int .i64 s0, .int .i64 s1, .int .i64 s2, .int .i64 s3, .int .i64 s4, .int .i64 s5] 47)).cell? ⟨bx, 0, none⟩ = some (.int .i64 id) ∧ Below w.heap.size w (w.alloc (.cells #[.int .i64 k, .int .i64 i, .int .i64 n, .int .i64 t, .string b, .int .i64 e, .int .i64 s0, .int .i64 s1, .int .i64 s2, .int .i64 s3, .int .i64 s4, .int .i64 s5] 47))) := Lib.hid ⟨Blk.newA _ _ _, ((Below.refl _ _).alloc (Nat.le_refl _) _).cell hlt |>.trans hbx, (Below.refl _ _).alloc (Nat.le_refl _) _⟩
  clear hbx hlt
  go_enter Try.func66, Try.ntmps66
  go_upto_region 1 with fail
  revert H0
  generalize (w.alloc (.cells #[.int .i64 k, .int .i64 i, .int .i64 n, .int .i64 t, .string b, .int .i64 e, .int .i64 s0, .int .i64 s1, .int .i64 s2, .int .i64 s3, .int .i64 s4, .int .i64 s5] 47)) = W0
  intro H0
  have d0 := H0.out.1.cell (i := 0) rfl
  have dx := H0.out.2.1
  go_wp2_with fail
  go_ret
  exact ⟨rfl, H0.out.2.2⟩
set_option maxRecDepth 20000 in
set_option maxHeartbeats 16000000 in
theorem gr_idx (a : Option Addr) (len cap : Nat) (L : List Ev) (hl : L.length = len) (hlm : len ≤ maxLen) (bx : Nat) (id : Int) (r : Int) (hr : Ev.idx (Gr.isk id) L = r) (w : World) (HE : EL w a L) (hbx : w.cell? ⟨bx, 0, none⟩ = some (.int .i64 id)) :
    Calls Try.prog 38 #[.slice a len cap, .func (.func 66) #[] #[.pointer (some ⟨bx, 0, none⟩)]] w fun e w' => e = .returned (.int .i64 r) ∧ Below w.heap.size w w' := by
  unfold maxLen at hlm
  have HL := Lib.hid (And.intro hl (And.intro HE (And.intro hr (And.intro hbx (World.block_lt_of_cell? _ _ hbx)))))
  clear hl HE hr hbx
  go_enter Try.func38, Try.ntmps38
  go_wp2_with fail
  go_loopw [5, 8] (fun _ z wr => ∃ j : Nat, z = .int .i64 j ∧ j ≤ len ∧ Hid (∀ q y, q < j → L[q]? = some y → Gr.isk id y = false) ∧ Hid (Below w.heap.size w wr)) (fun _ z _ => len - (intOf z).toNat)
  case atStart => exact ⟨0, rfl, by omega, Lib.hid (fun q y hq => by omega), Lib.hid (Below.refl _ _)⟩
  case round =>
    obtain ⟨j, rfl, hj, HK, HB⟩ := hrel
    have i0 : (0 : Int) ≤ (j : Int) := by omega
    by_cases hjl : j < len
    · have i1 : (j : Int) < (len : Int) := by omega
      have w1 : IntKind.i64.wrap ((j : Int) + 1) = (j : Int) + 1 := IntWalk.i64_in _ (by omega)
      obtain ⟨k, i, n, t, b, e, s0, s1, s2, s3, s4, s5, es⟩ : ∃ k i n t b e s0 s1 s2 s3 s4 s5, L[j]? = some ⟨k, i, n, t, b, e, s0, s1, s2, s3, s4, s5⟩ := ⟨_, _, _, _, _, _, _, _, _, _, _, _, List.getElem?_eq_getElem (by rw [HL.out.1]; exact hjl)⟩
      obtain ⟨hb, ga, o, rfl, hgw, e0, e1, e2, e3, e4, e5, e6, e7, e8, e9, e10, e11⟩ := (HL.out.2.1.below HB.out).get es
      obtain ⟨v, hv⟩ : ∃ v, Gr.isk id ⟨k, i, n, t, b, e, s0, s1, s2, s3, s4, s5⟩ = v := ⟨_, rfl⟩
      have HV : Hid (Gr.isk id ⟨k, i, n, t, b, e, s0, s1, s2, s3, s4, s5⟩ = v ∧ L[j]? = some ⟨k, i, n, t, b, e, s0, s1, s2, s3, s4, s5⟩ ∧ wr.cell? ⟨bx, 0, none⟩ = some (.int .i64 id)) := Lib.hid ⟨hv, es, (HB.out.cell HL.out.2.2.2.2).trans HL.out.2.2.2.1⟩
      clear hv es
      cases v with
      | true =>
        obtain rfl : (j : Int) = r := by rw [← HL.out.2.2.1]; exact (Ev.idx_hit HV.out.2.1 HV.out.1 HK.out).symm
        go_wp2_with (first
          | (go_at_call 66; (with_reducible refine (gr_clo k i n t b e s0 s1 s2 s3 s4 s5 bx id true HV.out.1 _ HV.out.2.2).mono ?_); rintro r4 W4 ⟨rfl, hb4⟩; have HD := Lib.hid (HB.out.trans (hb4.mono HB.out.size)); clear hb4)
          | fail)
        go_ret
        exact ⟨rfl, HD.out⟩
      | false =>
        have HK2 : Hid (∀ q y, q < j + 1 → L[q]? = some y → Gr.isk id y = false) := Lib.hid (fun q y hq hy => by
          by_cases e : q = j
          · rw [e, HV.out.2.1] at hy; rw [← Option.some.inj hy]; exact HV.out.1
          · exact HK.out q y (by omega) hy)
        go_wp2_with (first
          | (go_at_call 66; (with_reducible refine (gr_clo k i n t b e s0 s1 s2 s3 s4 s5 bx id false HV.out.1 _ HV.out.2.2).mono ?_); rintro r4 W4 ⟨rfl, hb4⟩; have HD := Lib.hid (HB.out.trans (hb4.mono HB.out.size)); clear hb4)
          | fail)
        go_roundw
        case rel => exact ⟨j + 1, by go_num, by omega, HK2, HD⟩
        case measure => simp [intOf]; omega
    · have i1 : ¬ (j : Int) < (len : Int) := by omega
      obtain rfl : -1 = r := by rw [← HL.out.2.2.1]; exact (Ev.idx_none (fun q y hy => HK.out q y (by have := (List.getElem?_eq_some_iff.1 hy).1; rw [HL.out.1] at this; omega) hy)).symm
      go_wp2_with fail
      go_ret
      exact ⟨rfl, HB.out⟩
/-- Where the first of a kind stands; how many there are, if there is none. -/
def Gr.fst (kd : Int) (L : List Ev) : Nat := L.findIdx (Gr.isk kd)
theorem Gr.fst_idx (kd : Int) (L : List Ev) : Ev.idx (Gr.isk kd) L = if Gr.fst kd L < L.length then (Gr.fst kd L : Int) else -1 := by
  unfold Gr.fst
  by_cases h : L.findIdx (Gr.isk kd) < L.length
  · rw [if_pos h]
    exact Ev.idx_hit (List.getElem?_eq_getElem h) (List.findIdx_getElem (w := h)) (fun q y hq hy => by
      have h2 := List.not_of_lt_findIdx hq
      obtain ⟨_, h3⟩ := List.getElem?_eq_some_iff.1 hy
      rw [h3] at h2
      simpa using h2)
  · rw [if_neg h]
    have h1 : ∀ x ∈ L, Gr.isk kd x = false := by
      intro x hx
      have := fun h2 => h (List.findIdx_lt_length.2 h2)
      cases hv : Gr.isk kd x with
      | false => rfl
      | true => exact absurd ⟨x, hx, hv⟩ this
    exact Ev.idx_none (fun q y hy => h1 y (List.mem_of_getElem? hy))
theorem Gr.fst_le (kd : Int) (L : List Ev) : Gr.fst kd L ≤ L.length := List.findIdx_le_length
set_option maxRecDepth 20000 in
set_option maxHeartbeats 16000000 in
theorem gr_first (a : Option Addr) (len cap : Nat) (L : List Ev) (hl : L.length = len) (hlm : len ≤ maxLen) (kd : Int) (f : Nat) (hf : Gr.fst kd L = f) (w : World) (HE : EL w a L) :
    Calls Try.prog 52 #[.slice a len cap, .int .i64 kd] w fun e w' => e = .returned (.int .i64 f) ∧ Below w.heap.size w w' := by
  have hx := Gr.fst_idx kd L
  have hfl := Gr.fst_le kd L
  rw [hf, hl] at hx
  rw [hf, hl] at hfl
  have hm : maxLen ≤ 9223372036854775807 := by unfold maxLen; omega
  have H0 : Hid (EL (w.alloc (.cells #[.int .i64 kd] 3)) a L ∧ (w.alloc (.cells #[.int .i64 kd] 3)).cell? ⟨w.heap.size, 0, none⟩ = some (.int .i64 kd) ∧ Below w.heap.size w (w.alloc (.cells #[.int .i64 kd] 3))) := Lib.hid ⟨HE.below ((Below.refl _ _).alloc (Nat.le_refl _) _), (Blk.newA w #[.int .i64 kd] 3).cell (i := 0) rfl, (Below.refl _ _).alloc (Nat.le_refl _) _⟩
  have HL := Lib.hid (And.intro hl hx)
  clear HE hl hx hf
  go_enter Try.func52, Try.ntmps52
  go_upto_region 1 with fail
  revert H0
  generalize (w.alloc (.cells #[.int .i64 kd] 3)) = W0
  intro H0
  by_cases h : f < len
  · have hx2 : Ev.idx (Gr.isk kd) L = (f : Int) := by rw [HL.out.2, if_pos h]
    have HX := Lib.hid hx2
    have i1 : ¬ (f : Int) < 0 := by omega
    clear hx2
    go_wp2_with (go_at_call 38; (with_reducible refine (gr_idx a len cap L HL.out.1 hlm w.heap.size kd f HX.out _ H0.out.1 H0.out.2.1).mono ?_); rintro r4 W4 ⟨rfl, hb4⟩; have HB := Lib.hid (H0.out.2.2.trans (hb4.mono H0.out.2.2.size)); clear hb4)
    go_ret
    exact ⟨rfl, HB.out⟩
  · have hx2 : Ev.idx (Gr.isk kd) L = -1 := by rw [HL.out.2, if_neg h]
    obtain rfl : f = len := by omega
    have HX := Lib.hid hx2
    clear hx2
    go_wp2_with (go_at_call 38; (with_reducible refine (gr_idx a f cap L HL.out.1 hlm w.heap.size kd (-1) HX.out _ H0.out.1 H0.out.2.1).mono ?_); rintro r4 W4 ⟨rfl, hb4⟩; have HB := Lib.hid (H0.out.2.2.trans (hb4.mono H0.out.2.2.size)); clear hb4)
    go_ret
    exact ⟨rfl, HB.out⟩
end Go.Proofs.Ytdchedkhlfmpeaa
