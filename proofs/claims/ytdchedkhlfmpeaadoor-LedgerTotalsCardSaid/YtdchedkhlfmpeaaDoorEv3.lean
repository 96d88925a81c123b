/- Events: the first one such that; the last round. -/
import Derived.Test.YtdchedkhlfmpeaaDoorEv2
import Derived.WalkKit
import Derived.ProofKit
import Derived.Handy
import Derived.WalkLawsBesides
import Derived.WalkSpells
import Derived.Lib.Hide
import Derived.Lib.SliceRun
import Derived.Deep.RegionLaw
import Derived.RegionTactic
import Derived.ChangeAlike
import Derived.WalkSmall
import Derived.Deep.QuietTactic
import Derived.BigQuiet
import Derived.OwnWalk
import Derived.Outline
import Derived.Deep.CutRange
import Derived.Deep.CutBlock
import Derived.LoopTactic
namespace Go.Proofs.YtdchedkhlfmpeaaDoor
open Go.ChangeShapes Go.WideShapes Go.ChangeAt Go.RowKit
set_option linter.unusedSimpArgs false
set_option linter.unusedVariables false

/-- The place of the first event such that p; -1: there is none. -/
def Ev.idx (p : Ev → Bool) (L : List Ev) : Int := match L.findIdx? p with
  | some j => (j : Int)
  | none => -1
theorem Ev.idx_hit {p : Ev → Bool} {L : List Ev} {j : Nat} {x : Ev} (hj : L[j]? = some x) (hx : p x = true) (h0 : ∀ q y, q < j → L[q]? = some y → p y = false) : Ev.idx p L = (j : Int) := by
  obtain ⟨hl, rfl⟩ := List.getElem?_eq_some_iff.1 hj
  have : L.findIdx? p = some j := by
    rw [List.findIdx?_eq_some_iff_getElem]
    exact ⟨hl, hx, fun q hq => by rw [h0 q _ hq (List.getElem?_eq_getElem (by omega))]; simp⟩
  unfold Ev.idx; rw [this]
theorem Ev.idx_none {p : Ev → Bool} {L : List Ev} (h0 : ∀ (q : Nat) y, L[q]? = some y → p y = false) : Ev.idx p L = -1 := by
  have : L.findIdx? p = none := by
    rw [List.findIdx?_eq_none_iff]
    intro x hx
    obtain ⟨q, hq⟩ := List.getElem?_of_mem hx
    exact h0 q x hq
  unfold Ev.idx; rw [this]
/-- What is told of the place. -/
theorem Ev.idx_cases (p : Ev → Bool) (L : List Ev) : (∃ (j : Nat) (x : Ev), Ev.idx p L = (j : Int) ∧ L[j]? = some x ∧ p x = true ∧ ∀ (q : Nat) (y : Ev), q < j → L[q]? = some y → p y = false) ∨ (Ev.idx p L = -1 ∧ ∀ (q : Nat) y, L[q]? = some y → p y = false) := by
  unfold Ev.idx
  cases h : L.findIdx? p with
  | some j =>
    obtain ⟨hl, h1, h2⟩ := List.findIdx?_eq_some_iff_getElem.1 h
    refine Or.inl ⟨j, L[j], rfl, List.getElem?_eq_getElem hl, h1, fun q y hq hy => ?_⟩
    obtain ⟨_, rfl⟩ := List.getElem?_eq_some_iff.1 hy
    simpa using h2 q hq
  | none => exact Or.inr ⟨rfl, fun q y hy => List.findIdx?_eq_none_iff.1 h y (List.mem_of_getElem? hy)⟩
/-- The tick of the last round. -/
def Ev.clock (L : List Ev) : Int := L.foldl (fun c x => if x.k = 1 then x.t else c) 0
theorem Ev.clock_snoc (L : List Ev) (x : Ev) : Ev.clock (L ++ [x]) = if x.k = 1 then x.t else Ev.clock L := by unfold Ev.clock; rw [List.foldl_append]; rfl
theorem Ev.clock_back {L : List Ev} {n : Nat} (hn : L.length = n) {j : Nat} {x : Ev} (hj : L[j]? = some x) (hx : x.k = 1) (h0 : ∀ q y, j < q → L[q]? = some y → y.k ≠ 1) : Ev.clock L = x.t := by
  have key : ∀ m, j < m → m ≤ n → Ev.clock (L.take m) = x.t := by
    intro m
    induction m with
    | zero => intro h; omega
    | succ m ih =>
      intro h1 h2
      have hlt : m < L.length := by omega
      rw [List.take_succ_eq_append_getElem hlt, Ev.clock_snoc]
      by_cases e : m = j
      · subst e
        obtain ⟨_, e2⟩ := List.getElem?_eq_some_iff.1 hj
        rw [e2, if_pos hx]
      · rw [if_neg (h0 m _ (by omega) (List.getElem?_eq_getElem hlt))]
        exact ih (by omega) (by omega)
  have := key n (by have := (List.getElem?_eq_some_iff.1 hj).1; omega) (Nat.le_refl _)
  rwa [List.take_of_length_le (by omega)] at this
theorem Ev.clock_none {L : List Ev} (h0 : ∀ (q : Nat) y, L[q]? = some y → y.k ≠ 1) : Ev.clock L = 0 := by
  have key : ∀ m, Ev.clock (L.take m) = 0 := by
    intro m
    induction m with
    | zero => rw [List.take_zero]; rfl
    | succ m ih =>
      by_cases hlt : m < L.length
      · rw [List.take_succ_eq_append_getElem hlt, Ev.clock_snoc, if_neg (h0 m _ (List.getElem?_eq_getElem hlt))]
        exact ih
      · rw [List.take_of_length_le (by omega)] at ih ⊢
        exact ih
  have := key L.length
  rwa [List.take_length] at this
def Pj.opens (id : Int) (x : Ev) : Bool := x.k == 2 && x.i == id
set_option maxRecDepth 20000 in
set_option maxHeartbeats 16000000 in
theorem pj_clo (k i n t : Int) (b : ByteArray) (e s0 s1 s2 s3 s4 s5 : Int) (bx : Nat) (id : Int) (r : Bool) (hr : Pj.opens id ⟨k, i, n, t, b, e, s0, s1, s2, s3, s4, s5⟩ = r) (w : World) (hbx : w.cell? ⟨bx, 0, none⟩ = some (.int .i64 id)) :
    Calls Tryd.prog 37 #[.agg #[.int .i64 k, .int .i64 i, .int .i64 n, .int .i64 t, .string b, .int .i64 e, .int .i64 s0, .int .i64 s1, .int .i64 s2, .int .i64 s3, .int .i64 s4, .int .i64 s5], .pointer (some ⟨bx, 0, none⟩)] w fun e w' => e = .returned (.bool r) ∧ Below w.heap.size w w' := by
  unfold Pj.opens at hr
  dsimp only at hr
  have hlt := World.block_lt_of_cell? _ _ hbx
  dsimp only at hlt
  have H0 : Hid (Blk (w.alloc (.cells #[.int .i64 k, .int .i64 i, .int .i64 n, .int .i64 t, .string b, .int .i64 e, .int .i64 s0, .int .i64 s1, .int .i64 s2, .int .i64 s3, .int .i64 s4, .int .i64 s5] 46)) w.heap.size [.int .i64 k, .int .i64 i, .int .i64 n, .int .i64 t, .string b, .int .i64 e, .int .i64 s0, .int .i64 s1, .int .i64 s2, .int .i64 s3, .int .i64 s4, .int .i64 s5] 46 ∧ (w.alloc (.cells #[.int .i64 k, .int .i64 i, .int .i64 n, .int .i64 t, .string b, .int .i64 e, .int .i64 s0, .int .i64 s1, .int .i64 s2, .int .i64 s3, .int .i64 s4, .int .i64 s5] 46)).cell? ⟨bx, 0, none⟩ = some (.int .i64 id) ∧ Below w.heap.size w (w.alloc (.cells #[.int .i64 k, .int .i64 i, .int .i64 n, .int .i64 t, .string b, .int .i64 e, .int .i64 s0, .int .i64 s1, .int .i64 s2, .int .i64 s3, .int .i64 s4, .int .i64 s5] 46))) := Lib.hid ⟨Blk.newA _ _ _, ((Below.refl _ _).alloc (Nat.le_refl _) _).cell hlt |>.trans hbx, (Below.refl _ _).alloc (Nat.le_refl _) _⟩
  have HR := Lib.hid hr
  clear hbx hr hlt
  go_enter Tryd.func37, Tryd.ntmps37
  go_upto_region 1 with fail
  revert H0
  generalize (w.alloc (.cells #[.int .i64 k, .int .i64 i, .int .i64 n, .int .i64 t, .string b, .int .i64 e, .int .i64 s0, .int .i64 s1, .int .i64 s2, .int .i64 s3, .int .i64 s4, .int .i64 s5] 46)) = W0
  intro H0
  have d0 := H0.out.1.cell (i := 0) rfl
  have d1 := H0.out.1.cell (i := 1) rfl
  have dx := H0.out.2.1
  by_cases h2 : k = 2
  · subst h2
    by_cases hi : i = id
    · subst hi
      obtain rfl : true = r := by rw [← HR.out]; simp
      go_wp2_with fail
      go_ret
      exact ⟨rfl, H0.out.2.2⟩
    · have hi2 : (i == id) = false := by simp [hi]
      obtain rfl : false = r := by rw [← HR.out]; simp [hi]
      go_wp2_with fail
      go_ret
      exact ⟨rfl, H0.out.2.2⟩
  · have hk2 : (k == 2) = false := by simp [h2]
    obtain rfl : false = r := by rw [← HR.out]; simp [h2]
    go_wp2_with fail
    go_ret
    exact ⟨rfl, H0.out.2.2⟩
set_option maxRecDepth 20000 in
set_option maxHeartbeats 16000000 in
theorem pj_idx (a : Option Addr) (len cap : Nat) (L : List Ev) (hl : L.length = len) (hlm : len ≤ maxLen) (bx : Nat) (id : Int) (r : Int) (hr : Ev.idx (Pj.opens id) L = r) (w : World) (HE : EL w a L) (hbx : w.cell? ⟨bx, 0, none⟩ = some (.int .i64 id)) :
    Calls Tryd.prog 36 #[.slice a len cap, .func (.func 37) #[] #[.pointer (some ⟨bx, 0, none⟩)]] w fun e w' => e = .returned (.int .i64 r) ∧ Below w.heap.size w w' := by
  unfold maxLen at hlm
  have HL := Lib.hid (And.intro hl (And.intro HE (And.intro hr (And.intro hbx (World.block_lt_of_cell? _ _ hbx)))))
  clear hl HE hr hbx
  go_enter Tryd.func36, Tryd.ntmps36
  go_wp2_with fail
  go_loopw [5, 8] (fun _ z wr => ∃ j : Nat, z = .int .i64 j ∧ j ≤ len ∧ Hid (∀ q y, q < j → L[q]? = some y → Pj.opens id y = false) ∧ Hid (Below w.heap.size w wr)) (fun _ z _ => len - (intOf z).toNat)
  case atStart => exact ⟨0, rfl, by omega, Lib.hid (fun q y hq => by omega), Lib.hid (Below.refl _ _)⟩
  case round =>
    obtain ⟨j, rfl, hj, HK, HB⟩ := hrel
    have i0 : (0 : Int) ≤ (j : Int) := by omega
    by_cases hjl : j < len
    · have i1 : (j : Int) < (len : Int) := by omega
      have w1 : IntKind.i64.wrap ((j : Int) + 1) = (j : Int) + 1 := IntWalk.i64_in _ (by omega)
      obtain ⟨k, i, n, t, b, e, s0, s1, s2, s3, s4, s5, es⟩ : ∃ k i n t b e s0 s1 s2 s3 s4 s5, L[j]? = some ⟨k, i, n, t, b, e, s0, s1, s2, s3, s4, s5⟩ := ⟨_, _, _, _, _, _, _, _, _, _, _, _, List.getElem?_eq_getElem (by rw [HL.out.1]; exact hjl)⟩
      obtain ⟨hb, ga, o, rfl, hgw, e0, e1, e2, e3, e4, e5, e6, e7, e8, e9, e10, e11⟩ := (HL.out.2.1.below HB.out).get es
      obtain ⟨v, hv⟩ : ∃ v, Pj.opens id ⟨k, i, n, t, b, e, s0, s1, s2, s3, s4, s5⟩ = v := ⟨_, rfl⟩
      have HV : Hid (Pj.opens id ⟨k, i, n, t, b, e, s0, s1, s2, s3, s4, s5⟩ = v ∧ L[j]? = some ⟨k, i, n, t, b, e, s0, s1, s2, s3, s4, s5⟩ ∧ wr.cell? ⟨bx, 0, none⟩ = some (.int .i64 id)) := Lib.hid ⟨hv, es, (HB.out.cell HL.out.2.2.2.2).trans HL.out.2.2.2.1⟩
      clear hv es
      cases v with
      | true =>
        obtain rfl : (j : Int) = r := by rw [← HL.out.2.2.1]; exact (Ev.idx_hit HV.out.2.1 HV.out.1 HK.out).symm
        go_wp2_with (first
          | (go_at_call 37; (with_reducible refine (pj_clo k i n t b e s0 s1 s2 s3 s4 s5 bx id true HV.out.1 _ HV.out.2.2).mono ?_); rintro r4 W4 ⟨rfl, hb4⟩; have HD := Lib.hid (HB.out.trans (hb4.mono HB.out.size)); clear hb4)
          | fail)
        go_ret
        exact ⟨rfl, HD.out⟩
      | false =>
        have HK2 : Hid (∀ q y, q < j + 1 → L[q]? = some y → Pj.opens id y = false) := Lib.hid (fun q y hq hy => by
          by_cases e : q = j
          · rw [e, HV.out.2.1] at hy; rw [← Option.some.inj hy]; exact HV.out.1
          · exact HK.out q y (by omega) hy)
        go_wp2_with (first
          | (go_at_call 37; (with_reducible refine (pj_clo k i n t b e s0 s1 s2 s3 s4 s5 bx id false HV.out.1 _ HV.out.2.2).mono ?_); rintro r4 W4 ⟨rfl, hb4⟩; have HD := Lib.hid (HB.out.trans (hb4.mono HB.out.size)); clear hb4)
          | fail)
        go_roundw
        case rel => exact ⟨j + 1, by go_num, by omega, HK2, HD⟩
        case measure => simp [intOf]; omega
    · have i1 : ¬ (j : Int) < (len : Int) := by omega
      obtain rfl : -1 = r := by rw [← HL.out.2.2.1]; exact (Ev.idx_none (fun q y hy => HK.out q y (by have := (List.getElem?_eq_some_iff.1 hy).1; rw [HL.out.1] at this; omega) hy)).symm
      go_wp2_with fail
      go_ret
      exact ⟨rfl, HB.out⟩
set_option maxRecDepth 20000 in
set_option maxHeartbeats 16000000 in
theorem pj_now (a : Option Addr) (len cap : Nat) (L : List Ev) (hl : L.length = len) (hlm : len ≤ maxLen) (r : Int) (hr : Ev.clock L = r) (w : World) (HE : EL w a L) :
    Calls Tryd.prog 39 #[.slice a len cap] w fun e w' => e = .returned (.int .i64 r) ∧ w' = w := by
  unfold maxLen at hlm
  have HL := Lib.hid (And.intro hl (And.intro HE hr))
  clear hl HE hr
  have w1 : IntKind.i64.wrap ((len : Int) - 1) = (len : Int) - 1 := IntWalk.i64_in _ (by omega)
  go_enter Tryd.func39, Tryd.ntmps39
  go_wp2_with fail
  clear w1
  go_loopw [3] (fun z wr => ∃ j : Nat, z = .int .i64 ((j : Int) - 1) ∧ j ≤ len ∧ wr = w ∧ Hid (∀ q y, j ≤ q → L[q]? = some y → y.k ≠ 1)) (fun z _ => (intOf z + 1).toNat)
  case atStart => exact ⟨len, rfl, by omega, rfl, Lib.hid (fun q y hq hy => by have := (List.getElem?_eq_some_iff.1 hy).1; rw [HL.out.1] at this; omega)⟩
  case round =>
    obtain ⟨j, rfl, hj, rfl, HK⟩ := hrel
    cases j with
    | zero =>
      have i0 : ¬ (0 : Int) ≤ ((0 : Nat) : Int) - 1 := by omega
      obtain rfl : 0 = r := by rw [← HL.out.2.2]; exact (Ev.clock_none (fun q y hy => HK.out q y (by omega) hy)).symm
      go_wp2_with fail
      go_ret
      exact ⟨rfl, rfl⟩
    | succ j =>
      rw [show (((j + 1 : Nat) : Int) - 1) = (j : Int) by omega]
      have i0 : (0 : Int) ≤ (j : Int) := by omega
      have i1 : (j : Int) < (len : Int) := by omega
      have i2 : j < len := by omega
      have w1 : IntKind.i64.wrap ((j : Int) - 1) = (j : Int) - 1 := IntWalk.i64_in _ (by omega)
      obtain ⟨k, i, n, t, b, e, s0, s1, s2, s3, s4, s5, es⟩ : ∃ k i n t b e s0 s1 s2 s3 s4 s5, L[j]? = some ⟨k, i, n, t, b, e, s0, s1, s2, s3, s4, s5⟩ := ⟨_, _, _, _, _, _, _, _, _, _, _, _, List.getElem?_eq_getElem (by rw [HL.out.1]; omega)⟩
      obtain ⟨hb, ga, o, rfl, hgw, e0, e1, e2, e3, e4, e5, e6, e7, e8, e9, e10, e11⟩ := HL.out.2.1.get es
      have HV := Lib.hid es
      clear es e1 e2 e4 e5 e6 e7 e8 e9 e10 e11
      by_cases hk : k = 1
      · subst hk
        obtain rfl : t = r := by rw [← HL.out.2.2]; exact (Ev.clock_back HL.out.1 HV.out rfl (fun q y hq hy => HK.out q y (by omega) hy)).symm
        go_wp2_with fail
        go_ret
        exact ⟨rfl, rfl⟩
      · have hk2 : (k == 1) = false := by simp [hk]
        have HK2 : Hid (∀ q y, j ≤ q → L[q]? = some y → y.k ≠ 1) := Lib.hid (fun q y hq hy => by
          by_cases e : q = j
          · rw [e, HV.out] at hy; rw [← Option.some.inj hy]; exact hk
          · exact HK.out q y (by omega) hy)
        go_wp2_with fail
        go_roundw
        case rel => exact ⟨j, by go_num, by omega, by trivial, HK2⟩
        case measure => first | (simp [intOf]; done) | (simp [intOf]; omega)
end Go.Proofs.YtdchedkhlfmpeaaDoor
