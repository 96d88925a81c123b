/- Replay: Apart. -/
import Derived.Test.YtdchedkhlfmpeaaRp1
import Derived.WalkKit
import Derived.ProofKit
import Derived.Handy
import Derived.WalkLawsBesides
import Derived.WalkSpells
import Derived.Lib.Hide
import Derived.Lib.SliceRun
import Derived.Deep.RegionLaw
import Derived.RegionTactic
import Derived.ChangeAlike
import Derived.WalkSmall
import Derived.Deep.QuietTactic
import Derived.BigQuiet
import Derived.OwnWalk
import Derived.Outline
import Derived.Deep.CutRange
import Derived.Deep.CutBlock
import Derived.LoopTactic
namespace Go.Proofs.Ytdchedkhlfmpeaa
open Go.ChangeShapes Go.WideShapes Go.ChangeAt Go.RowKit
set_option linter.unusedSimpArgs false
set_option linter.unusedVariables false

set_option maxRecDepth 20000 in
set_option maxHeartbeats 16000000 in
theorem rp_apart (a b : Option Addr) (na nb ca cb : Nat) (A B : List Ev) (hla : A.length = na) (hlb : B.length = nb) (hna : na ≤ 1000000) (hnb : nb ≤ 1000000) (w : World) (HA : EL w a A) (HB : EL w b B) (n : Nat) (is : Bool) (hr : (match Ev.ap A B with | some k => (k, true) | none => (0, false)) = (n, is)) :
    Calls Try.prog 34 #[.slice a na ca, .slice b nb cb] w fun e w' => e = .returned (.tuple #[.int .i64 n, .bool is]) ∧ Below w.heap.size w w' := by
  obtain ⟨q, hq⟩ : ∃ q, min na nb = q := ⟨_, rfl⟩
  have hq1 : q ≤ na := by omega
  have hq2 : q ≤ nb := by omega
  have hq3 : q = na ∨ q = nb := by omega
  have hqi : min (na : Int) (nb : Int) = (q : Int) := by omega
  have HL := Lib.hid (And.intro hla (And.intro hlb (And.intro HA HB)))
  have HR := Lib.hid hr
  clear hla hlb HA HB hr hq
  go_enter Try.func34, Try.ntmps34
  go_wp2_with fail
  go_loopw [6, 12] (fun _ z wr => ∃ j : Nat, z = .int .i64 j ∧ j ≤ q ∧ Hid (A.take j = B.take j) ∧ Hid (Below w.heap.size w wr)) (fun _ z _ => q - (intOf z).toNat)
  case atStart => exact ⟨0, rfl, by omega, Lib.hid (by simp), Lib.hid (Below.refl _ _)⟩
  case round =>
    obtain ⟨j, rfl, hj, HT, HB⟩ := hrel
    have j0 : (0 : Int) ≤ (j : Int) := by omega
    by_cases hjl : j < q
    · have i1 : (j : Int) < (q : Int) := by omega
      have ia : (j : Int) < (na : Int) := by omega
      have ib : (j : Int) < (nb : Int) := by omega
      have w1 : IntKind.i64.wrap ((j : Int) + 1) = (j : Int) + 1 := IntWalk.i64_in _ (by omega)
      obtain ⟨x, es⟩ : ∃ x, A[j]? = some x := ⟨_, List.getElem?_eq_getElem (by rw [HL.out.1]; omega)⟩
      obtain ⟨y, fs⟩ : ∃ y, B[j]? = some y := ⟨_, List.getElem?_eq_getElem (by rw [HL.out.2.1]; omega)⟩
      obtain ⟨okx, g1, o1, rfl, hg1, C1⟩ := (HL.out.2.2.1.below HB.out) j _ es
      obtain ⟨oky, g2, o2, rfl, hg2, C2⟩ := (HL.out.2.2.2.below HB.out) j _ fs
      have eqp := eqEv x y okx oky
      by_cases hxy : x = y
      · subst hxy
        rw [decide_eq_true rfl] at eqp
        have HX := Lib.hid (And.intro es fs)
        clear es fs okx oky
        obtain ⟨k, i, m, t, b1, e, s0, s1, s2, s3, s4, s5⟩ := x
        have d0 := C1 0 _ rfl
        have e0 := C2 0 _ rfl
        rw [Nat.add_zero] at d0 e0
        have d1 := C1 1 _ rfl
        have e1 := C2 1 _ rfl
        rw [← Nat.add_assoc] at d1 e1
        have d2 := C1 2 _ rfl
        have e2 := C2 2 _ rfl
        rw [← Nat.add_assoc] at d2 e2
        have d3 := C1 3 _ rfl
        have e3 := C2 3 _ rfl
        rw [← Nat.add_assoc] at d3 e3
        have d4 := C1 4 _ rfl
        have e4 := C2 4 _ rfl
        rw [← Nat.add_assoc] at d4 e4
        have d5 := C1 5 _ rfl
        have e5 := C2 5 _ rfl
        rw [← Nat.add_assoc] at d5 e5
        have d6 := C1 6 _ rfl
        have e6 := C2 6 _ rfl
        rw [← Nat.add_assoc] at d6 e6
        have d7 := C1 7 _ rfl
        have e7 := C2 7 _ rfl
        rw [← Nat.add_assoc] at d7 e7
        have d8 := C1 8 _ rfl
        have e8 := C2 8 _ rfl
        rw [← Nat.add_assoc] at d8 e8
        have d9 := C1 9 _ rfl
        have e9 := C2 9 _ rfl
        rw [← Nat.add_assoc] at d9 e9
        have d10 := C1 10 _ rfl
        have e10 := C2 10 _ rfl
        rw [← Nat.add_assoc] at d10 e10
        have d11 := C1 11 _ rfl
        have e11 := C2 11 _ rfl
        rw [← Nat.add_assoc] at d11 e11
        clear C1 C2
        go_upto_region 4 with fail
        go_quiet (fail)
        have HD := Lib.hid (below_dn nq HB.out)
        clear HB
        go_wp2_with fail
        go_roundw
        case rel => exact ⟨j + 1, by go_num, by omega, Lib.hid (Ev.tk HT.out HX.out.1 HX.out.2), HD⟩
        case measure => simp [intOf]; omega
      · rw [decide_eq_false hxy] at eqp
        have HX := Lib.hid (And.intro es (And.intro fs hxy))
        clear es fs okx oky hxy
        obtain ⟨k, i, m, t, b1, e, s0, s1, s2, s3, s4, s5⟩ := x
        obtain ⟨k2, i2, n2, t2, b2, f2, r0, r1, r2, r3, r4, r5⟩ := y
        have eqp2 : ∀ w : World, (Op.equalIn 10000 47 (.agg #[.int .i64 k, .int .i64 i, .int .i64 m, .int .i64 t, .string b1, .int .i64 e, .int .i64 s0, .int .i64 s1, .int .i64 s2, .int .i64 s3, .int .i64 s4, .int .i64 s5]) (.agg #[.int .i64 k2, .int .i64 i2, .int .i64 n2, .int .i64 t2, .string b2, .int .i64 f2, .int .i64 r0, .int .i64 r1, .int .i64 r2, .int .i64 r3, .int .i64 r4, .int .i64 r5])).run Try.prog w = .ok false w := eqp
        clear eqp
        have d0 := C1 0 _ rfl
        have e0 := C2 0 _ rfl
        rw [Nat.add_zero] at d0 e0
        have d1 := C1 1 _ rfl
        have e1 := C2 1 _ rfl
        rw [← Nat.add_assoc] at d1 e1
        have d2 := C1 2 _ rfl
        have e2 := C2 2 _ rfl
        rw [← Nat.add_assoc] at d2 e2
        have d3 := C1 3 _ rfl
        have e3 := C2 3 _ rfl
        rw [← Nat.add_assoc] at d3 e3
        have d4 := C1 4 _ rfl
        have e4 := C2 4 _ rfl
        rw [← Nat.add_assoc] at d4 e4
        have d5 := C1 5 _ rfl
        have e5 := C2 5 _ rfl
        rw [← Nat.add_assoc] at d5 e5
        have d6 := C1 6 _ rfl
        have e6 := C2 6 _ rfl
        rw [← Nat.add_assoc] at d6 e6
        have d7 := C1 7 _ rfl
        have e7 := C2 7 _ rfl
        rw [← Nat.add_assoc] at d7 e7
        have d8 := C1 8 _ rfl
        have e8 := C2 8 _ rfl
        rw [← Nat.add_assoc] at d8 e8
        have d9 := C1 9 _ rfl
        have e9 := C2 9 _ rfl
        rw [← Nat.add_assoc] at d9 e9
        have d10 := C1 10 _ rfl
        have e10 := C2 10 _ rfl
        rw [← Nat.add_assoc] at d10 e10
        have d11 := C1 11 _ rfl
        have e11 := C2 11 _ rfl
        rw [← Nat.add_assoc] at d11 e11
        clear C1 C2
        have HE : Hid (n = j ∧ is = true) := Lib.hid (by
          have h := HR.out
          rw [Ev.ap_ne HT.out HX.out.1 HX.out.2.1 HX.out.2.2] at h
          injection h with h1 h2
          exact ⟨h1.symm, h2.symm⟩)
        go_upto_region 4 with fail
        go_quiet (fail)
        have HD := Lib.hid (below_dn nq HB.out)
        clear HB
        go_wp2_with fail
        go_ret2
        obtain ⟨rfl, rfl⟩ := HE.out
        exact ⟨rfl, HD.out⟩
    · obtain rfl : j = q := by omega
      have i1 : ¬ (j : Int) < (j : Int) := by omega
      by_cases hn : na = nb
      · subst hn
        have nn : ((na : Int) != (na : Int)) = false := by simp
        have HE : Hid (n = 0 ∧ is = false) := Lib.hid (by
          have h := HR.out
          rw [Ev.ap_end HT.out (by have := HL.out.1; omega) (by have := HL.out.2.1; omega)] at h
          injection h with h1 h2
          exact ⟨h1.symm, h2.symm⟩)
        go_wp2_with fail
        go_ret2
        obtain ⟨rfl, rfl⟩ := HE.out
        exact ⟨rfl, HB.out⟩
      · have nn : ((na : Int) != (nb : Int)) = true := by simp; omega
        have nn2 : ¬ (na : Int) = (nb : Int) := by omega
        have HE : Hid (n = j ∧ is = true) := Lib.hid (by
          have h := HR.out
          rw [Ev.ap_more HT.out (by have := HL.out.1; omega) (by have := HL.out.2.1; omega) (by have := HL.out.1; have := HL.out.2.1; omega) (by have := HL.out.1; have := HL.out.2.1; omega)] at h
          injection h with h1 h2
          exact ⟨h1.symm, h2.symm⟩)
        go_wp2_with fail
        go_ret2
        obtain ⟨rfl, rfl⟩ := HE.out
        exact ⟨rfl, HB.out⟩
end Go.Proofs.Ytdchedkhlfmpeaa
