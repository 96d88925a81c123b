/- Replay: where two lists of events part; events.Same of any two lists. -/
import Derived.Test.YtdchedkhlfmpeaaEv16
import Derived.WalkKit
import Derived.ProofKit
import Derived.Handy
import Derived.WalkLawsBesides
import Derived.WalkSpells
import Derived.Lib.Hide
import Derived.Lib.SliceRun
import Derived.Deep.RegionLaw
import Derived.RegionTactic
import Derived.ChangeAlike
import Derived.WalkSmall
import Derived.Deep.QuietTactic
import Derived.BigQuiet
import Derived.OwnWalk
import Derived.Outline
import Derived.Deep.CutRange
import Derived.Deep.CutBlock
import Derived.LoopTactic
namespace Go.Proofs.Ytdchedkhlfmpeaa
open Go.ChangeShapes Go.WideShapes Go.ChangeAt Go.RowKit
set_option linter.unusedSimpArgs false
set_option linter.unusedVariables false

/-- Where two lists part. -/
noncomputable def Ev.ap : List Ev → List Ev → Option Nat
  | [], B => match B with
    | [] => none
    | _ :: _ => some 0
  | x :: r, B => match B with
    | [] => some 0
    | y :: s => if x = y then (Ev.ap r s).map (· + 1) else some 0
theorem Ev.ap_nn : Ev.ap [] [] = none := rfl
theorem Ev.ap_nc (y : Ev) (s : List Ev) : Ev.ap [] (y :: s) = some 0 := rfl
theorem Ev.ap_cn (x : Ev) (r : List Ev) : Ev.ap (x :: r) [] = some 0 := rfl
theorem Ev.ap_cons (x : Ev) (r : List Ev) (y : Ev) (s : List Ev) : Ev.ap (x :: r) (y :: s) = if x = y then (Ev.ap r s).map (· + 1) else some 0 := rfl
theorem Ev.ap_none : ∀ {A B : List Ev}, Ev.ap A B = none ↔ A = B
  | [], [] => by simp [Ev.ap_nn, Ev.ap_nc, Ev.ap_cn]
  | [], y :: s => by simp [Ev.ap_nn, Ev.ap_nc, Ev.ap_cn]
  | x :: r, [] => by simp [Ev.ap_nn, Ev.ap_nc, Ev.ap_cn]
  | x :: r, y :: s => by
    rw [Ev.ap_cons]
    by_cases h : x = y
    · subst h
      rw [if_pos rfl, Option.map_eq_none_iff, Ev.ap_none]
      simp
    · rw [if_neg h]; simp [h]
theorem Ev.ap_le : ∀ {A B : List Ev} {n : Nat}, Ev.ap A B = some n → n ≤ A.length
  | [], [], _, h => by simp [Ev.ap_nn, Ev.ap_nc, Ev.ap_cn] at h
  | [], y :: s, _, h => by simp [Ev.ap_nn, Ev.ap_nc, Ev.ap_cn] at h; subst h; exact Nat.zero_le _
  | x :: r, [], _, h => by simp [Ev.ap_nn, Ev.ap_nc, Ev.ap_cn] at h; subst h; exact Nat.zero_le _
  | x :: r, y :: s, n, h => by
    rw [Ev.ap_cons] at h
    by_cases e : x = y
    · rw [if_pos e, Option.map_eq_some_iff] at h
      obtain ⟨m, h1, rfl⟩ := h
      have := Ev.ap_le h1
      simp; omega
    · rw [if_neg e] at h; injection h with h; subst h; exact Nat.zero_le _
theorem Ev.ap_cut : ∀ (j : Nat) (A B : List Ev), j ≤ A.length → j ≤ B.length → A.take j = B.take j → Ev.ap A B = (Ev.ap (A.drop j) (B.drop j)).map (· + j)
  | 0, A, B, _, _, _ => by simp
  | j + 1, [], B, h, _, _ => by simp at h
  | j + 1, x :: r, [], _, h, _ => by simp at h
  | j + 1, x :: r, y :: s, h1, h2, h => by
    simp only [List.take_succ_cons, List.cons.injEq] at h
    obtain ⟨rfl, h⟩ := h
    simp only [List.drop_succ_cons]
    rw [Ev.ap_cons]
    rw [if_pos rfl, Ev.ap_cut j r s (by simpa using h1) (by simpa using h2) h, Option.map_map]
    congr 1
theorem Ev.ap_ne {A B : List Ev} {j : Nat} {x y : Ev} (h : A.take j = B.take j) (hx : A[j]? = some x) (hy : B[j]? = some y) (hn : x ≠ y) : Ev.ap A B = some j := by
  have h1 := (List.getElem?_eq_some_iff.1 hx).1
  have h2 := (List.getElem?_eq_some_iff.1 hy).1
  rw [Ev.ap_cut j A B (by omega) (by omega) h, List.drop_eq_getElem_cons h1, List.drop_eq_getElem_cons h2, (List.getElem?_eq_some_iff.1 hx).2, (List.getElem?_eq_some_iff.1 hy).2]
  rw [Ev.ap_cons]
  rw [if_neg hn]; simp
theorem Ev.ap_more {A B : List Ev} {j : Nat} (h : A.take j = B.take j) (h1 : j ≤ A.length) (h2 : j ≤ B.length) (h3 : j = A.length ∨ j = B.length) (hn : A.length ≠ B.length) : Ev.ap A B = some j := by
  rw [Ev.ap_cut j A B h1 h2 h]
  rcases h3 with h3 | h3
  · rw [List.drop_of_length_le (by omega), List.drop_eq_getElem_cons (l := B) (by omega), Ev.ap_nc]
    simp
  · rw [List.drop_of_length_le (l := B) (by omega), List.drop_eq_getElem_cons (l := A) (by omega), Ev.ap_cn]
    simp
theorem Ev.ap_end {A B : List Ev} {j : Nat} (h : A.take j = B.take j) (h1 : j = A.length) (h2 : j = B.length) : Ev.ap A B = none := by
  rw [Ev.ap_none]
  rwa [List.take_of_length_le (by omega), List.take_of_length_le (by omega)] at h
theorem Ev.tk {A B : List Ev} {j : Nat} {x : Ev} (h : A.take j = B.take j) (hx : A[j]? = some x) (hy : B[j]? = some x) : A.take (j + 1) = B.take (j + 1) := by
  rw [take_snocE hx, take_snocE hy, h]
theorem below_dn {B : Nat} {w w' : World} (n : Nat) (h : Below B w w') : Below B w (w'.drewN n) := ⟨h.os, h.tape, h.output, h.size, h.block⟩
set_option maxRecDepth 20000 in
set_option maxHeartbeats 16000000 in
theorem ev_samed (a b : Option Addr) (na nb ca cb : Nat) (A B : List Ev) (hla : A.length = na) (hlb : B.length = nb) (hna : na ≤ 1000000) (hnb : nb ≤ 1000000) (w : World) (HA : EL w a A) (HB : EL w b B) (r : Bool) (hr : decide (A = B) = r) :
    Calls Try.prog 17 #[.slice a na ca, .slice b nb cb] w fun e w' => e = .returned (.bool r) ∧ Below w.heap.size w w' := by
  by_cases hn : na = nb
  · subst hn
    have nn : ((na : Int) != (na : Int)) = false := by simp
    have HL := Lib.hid (And.intro hla (And.intro hlb (And.intro HA HB)))
    have HR := Lib.hid hr
    clear hla hlb HA HB hr
    go_enter Try.func17, Try.ntmps17
    go_wp2_with fail
    go_loopw [5] (fun z wr => ∃ j : Nat, z = .int .i64 j ∧ j ≤ na ∧ Hid (A.take j = B.take j) ∧ Hid (Below w.heap.size w wr)) (fun z _ => na - (intOf z).toNat)
    case atStart => exact ⟨0, rfl, by omega, Lib.hid (by simp), Lib.hid (Below.refl _ _)⟩
    case round =>
      obtain ⟨j, rfl, hj, HT, HB⟩ := hrel
      have j0 : (0 : Int) ≤ (j : Int) := by omega
      by_cases hjl : j < na
      · have i1 : (j : Int) < (na : Int) := by omega
        have w1 : IntKind.i64.wrap ((j : Int) + 1) = (j : Int) + 1 := IntWalk.i64_in _ (by omega)
        obtain ⟨x, es⟩ : ∃ x, A[j]? = some x := ⟨_, List.getElem?_eq_getElem (by rw [HL.out.1]; omega)⟩
        obtain ⟨y, fs⟩ : ∃ y, B[j]? = some y := ⟨_, List.getElem?_eq_getElem (by rw [HL.out.2.1]; omega)⟩
        obtain ⟨okx, g1, o1, rfl, hg1, C1⟩ := (HL.out.2.2.1.below HB.out) j _ es
        obtain ⟨oky, g2, o2, rfl, hg2, C2⟩ := (HL.out.2.2.2.below HB.out) j _ fs
        have eqp := eqEv x y okx oky
        by_cases hxy : x = y
        · subst hxy
          rw [decide_eq_true rfl] at eqp
          have HX := Lib.hid (And.intro es fs)
          clear es fs okx oky
          obtain ⟨k, i, m, t, b1, e, s0, s1, s2, s3, s4, s5⟩ := x
          have d0 := C1 0 _ rfl
          have e0 := C2 0 _ rfl
          rw [Nat.add_zero] at d0 e0
          have d1 := C1 1 _ rfl
          have e1 := C2 1 _ rfl
          rw [← Nat.add_assoc] at d1 e1
          have d2 := C1 2 _ rfl
          have e2 := C2 2 _ rfl
          rw [← Nat.add_assoc] at d2 e2
          have d3 := C1 3 _ rfl
          have e3 := C2 3 _ rfl
          rw [← Nat.add_assoc] at d3 e3
          have d4 := C1 4 _ rfl
          have e4 := C2 4 _ rfl
          rw [← Nat.add_assoc] at d4 e4
          have d5 := C1 5 _ rfl
          have e5 := C2 5 _ rfl
          rw [← Nat.add_assoc] at d5 e5
          have d6 := C1 6 _ rfl
          have e6 := C2 6 _ rfl
          rw [← Nat.add_assoc] at d6 e6
          have d7 := C1 7 _ rfl
          have e7 := C2 7 _ rfl
          rw [← Nat.add_assoc] at d7 e7
          have d8 := C1 8 _ rfl
          have e8 := C2 8 _ rfl
          rw [← Nat.add_assoc] at d8 e8
          have d9 := C1 9 _ rfl
          have e9 := C2 9 _ rfl
          rw [← Nat.add_assoc] at d9 e9
          have d10 := C1 10 _ rfl
          have e10 := C2 10 _ rfl
          rw [← Nat.add_assoc] at d10 e10
          have d11 := C1 11 _ rfl
          have e11 := C2 11 _ rfl
          rw [← Nat.add_assoc] at d11 e11
          clear C1 C2
          go_upto_region 6 with fail
          go_quiet (fail)
          have HD := Lib.hid (below_dn nq HB.out)
          clear HB
          go_wp2_with fail
          go_roundw
          case rel => exact ⟨j + 1, by go_num, by omega, Lib.hid (Ev.tk HT.out HX.out.1 HX.out.2), HD⟩
          case measure => simp [intOf]; omega
        · rw [decide_eq_false hxy] at eqp
          have HX := Lib.hid (And.intro es (And.intro fs hxy))
          clear es fs okx oky hxy
          obtain ⟨k, i, m, t, b1, e, s0, s1, s2, s3, s4, s5⟩ := x
          obtain ⟨k2, i2, n2, t2, b2, f2, r0, r1, r2, r3, r4, r5⟩ := y
          have eqp2 : ∀ w : World, (Op.equalIn 10000 47 (.agg #[.int .i64 k, .int .i64 i, .int .i64 m, .int .i64 t, .string b1, .int .i64 e, .int .i64 s0, .int .i64 s1, .int .i64 s2, .int .i64 s3, .int .i64 s4, .int .i64 s5]) (.agg #[.int .i64 k2, .int .i64 i2, .int .i64 n2, .int .i64 t2, .string b2, .int .i64 f2, .int .i64 r0, .int .i64 r1, .int .i64 r2, .int .i64 r3, .int .i64 r4, .int .i64 r5])).run Try.prog w = .ok false w := eqp
          clear eqp
          have d0 := C1 0 _ rfl
          have e0 := C2 0 _ rfl
          rw [Nat.add_zero] at d0 e0
          have d1 := C1 1 _ rfl
          have e1 := C2 1 _ rfl
          rw [← Nat.add_assoc] at d1 e1
          have d2 := C1 2 _ rfl
          have e2 := C2 2 _ rfl
          rw [← Nat.add_assoc] at d2 e2
          have d3 := C1 3 _ rfl
          have e3 := C2 3 _ rfl
          rw [← Nat.add_assoc] at d3 e3
          have d4 := C1 4 _ rfl
          have e4 := C2 4 _ rfl
          rw [← Nat.add_assoc] at d4 e4
          have d5 := C1 5 _ rfl
          have e5 := C2 5 _ rfl
          rw [← Nat.add_assoc] at d5 e5
          have d6 := C1 6 _ rfl
          have e6 := C2 6 _ rfl
          rw [← Nat.add_assoc] at d6 e6
          have d7 := C1 7 _ rfl
          have e7 := C2 7 _ rfl
          rw [← Nat.add_assoc] at d7 e7
          have d8 := C1 8 _ rfl
          have e8 := C2 8 _ rfl
          rw [← Nat.add_assoc] at d8 e8
          have d9 := C1 9 _ rfl
          have e9 := C2 9 _ rfl
          rw [← Nat.add_assoc] at d9 e9
          have d10 := C1 10 _ rfl
          have e10 := C2 10 _ rfl
          rw [← Nat.add_assoc] at d10 e10
          have d11 := C1 11 _ rfl
          have e11 := C2 11 _ rfl
          rw [← Nat.add_assoc] at d11 e11
          clear C1 C2
          have HE : Hid (r = false) := Lib.hid (by
            rw [← HR.out, decide_eq_false_iff_not]
            intro e
            have h1 := HX.out.1
            rw [e, HX.out.2.1] at h1
            injection h1 with h1
            exact HX.out.2.2 h1.symm)
          go_upto_region 6 with fail
          go_quiet (fail)
          have HD := Lib.hid (below_dn nq HB.out)
          clear HB
          go_wp2_with fail
          go_ret
          exact ⟨by rw [HE.out]; rfl, HD.out⟩
      · have i1 : ¬ (j : Int) < (na : Int) := by omega
        have HE : Hid (r = true) := Lib.hid (by
          rw [← HR.out, decide_eq_true_eq]
          exact Ev.ap_none.1 (Ev.ap_end HT.out (by have := HL.out.1; omega) (by have := HL.out.2.1; omega)))
        go_wp2_with fail
        go_ret
        exact ⟨by rw [HE.out]; rfl, HB.out⟩
  · have nn : ((na : Int) != (nb : Int)) = true := by simp; omega
    have nn2 : ¬ (na : Int) = (nb : Int) := by omega
    obtain rfl : false = r := by
      rw [← hr]; symm
      rw [decide_eq_false_iff_not]
      intro e; rw [e] at hla; omega
    clear hr HA HB
    go_enter Try.func17, Try.ntmps17
    go_wp2_with fail
    go_ret
    exact ⟨rfl, Below.refl _ _⟩
end Go.Proofs.Ytdchedkhlfmpeaa
