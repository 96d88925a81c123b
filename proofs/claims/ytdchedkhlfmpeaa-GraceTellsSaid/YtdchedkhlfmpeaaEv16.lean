/- Events: lists and lives held against themselves; the clocks. -/
import Derived.Test.YtdchedkhlfmpeaaEv14
import Derived.WalkKit
import Derived.ProofKit
import Derived.Handy
import Derived.WalkLawsBesides
import Derived.WalkSpells
import Derived.Lib.Hide
import Derived.Lib.SliceRun
import Derived.Deep.RegionLaw
import Derived.RegionTactic
import Derived.ChangeAlike
import Derived.WalkSmall
import Derived.Deep.QuietTactic
import Derived.BigQuiet
import Derived.OwnWalk
import Derived.Outline
import Derived.Deep.CutRange
import Derived.Deep.CutBlock
import Derived.LoopTactic
namespace Go.Proofs.Ytdchedkhlfmpeaa
open Go.ChangeShapes Go.WideShapes Go.ChangeAt Go.RowKit
set_option linter.unusedSimpArgs false
set_option linter.unusedVariables false

set_option maxRecDepth 20000 in
set_option maxHeartbeats 16000000 in
theorem ev_same (a b : Option Addr) (n ca cb : Nat) (M : List Ev) (hl : M.length = n) (hn : n ≤ 1000000) (w : World) (HA : RE w a 12 Ev.c M) (HB : RE w b 12 Ev.c M ∧ ∀ x ∈ M, x.ok) :
    Calls Try.prog 17 #[.slice a n ca, .slice b n cb] w fun r w' => r = .returned (.bool true) ∧ Below w.heap.size w w' := by
  have HL := Lib.hid (And.intro hl (And.intro HA HB))
  clear hl HA HB
  go_enter Try.func17, Try.ntmps17
  go_wp2_with fail
  go_loopw [5] (fun z wr => ∃ j : Nat, z = .int .i64 j ∧ j ≤ n ∧ Hid (Below w.heap.size w wr)) (fun z _ => n - (intOf z).toNat)
  case atStart => exact ⟨0, rfl, by omega, Lib.hid (Below.refl _ _)⟩
  case round =>
    obtain ⟨j, rfl, hj, HB⟩ := hrel
    have j0 : (0 : Int) ≤ (j : Int) := by omega
    by_cases hjl : j < n
    · have i1 : (j : Int) < (n : Int) := by omega
      have w1 : IntKind.i64.wrap ((j : Int) + 1) = (j : Int) + 1 := IntWalk.i64_in _ (by omega)
      obtain ⟨x, es⟩ : ∃ x, M[j]? = some x := ⟨_, List.getElem?_eq_getElem (by rw [HL.out.1]; exact hjl)⟩
      have hok := HL.out.2.2.2 x (List.mem_of_getElem? es)
      have eqp := eqEv x x hok hok
      rw [decide_eq_true rfl] at eqp
      obtain ⟨k, i, m, t, b2, e, s0, s1, s2, s3, s4, s5⟩ := x
      obtain ⟨g1, o1, rfl, hg1, C1⟩ := (HL.out.2.1.below HB.out) j _ es
      obtain ⟨g2, o2, rfl, hg2, C2⟩ := (HL.out.2.2.1.below HB.out) j _ es
      have d0 := C1 0 _ rfl
      have e0 := C2 0 _ rfl
      rw [Nat.add_zero] at d0 e0
      have d1 := C1 1 _ rfl
      have e1 := C2 1 _ rfl
      rw [← Nat.add_assoc] at d1 e1
      have d2 := C1 2 _ rfl
      have e2 := C2 2 _ rfl
      rw [← Nat.add_assoc] at d2 e2
      have d3 := C1 3 _ rfl
      have e3 := C2 3 _ rfl
      rw [← Nat.add_assoc] at d3 e3
      have d4 := C1 4 _ rfl
      have e4 := C2 4 _ rfl
      rw [← Nat.add_assoc] at d4 e4
      have d5 := C1 5 _ rfl
      have e5 := C2 5 _ rfl
      rw [← Nat.add_assoc] at d5 e5
      have d6 := C1 6 _ rfl
      have e6 := C2 6 _ rfl
      rw [← Nat.add_assoc] at d6 e6
      have d7 := C1 7 _ rfl
      have e7 := C2 7 _ rfl
      rw [← Nat.add_assoc] at d7 e7
      have d8 := C1 8 _ rfl
      have e8 := C2 8 _ rfl
      rw [← Nat.add_assoc] at d8 e8
      have d9 := C1 9 _ rfl
      have e9 := C2 9 _ rfl
      rw [← Nat.add_assoc] at d9 e9
      have d10 := C1 10 _ rfl
      have e10 := C2 10 _ rfl
      rw [← Nat.add_assoc] at d10 e10
      have d11 := C1 11 _ rfl
      have e11 := C2 11 _ rfl
      rw [← Nat.add_assoc] at d11 e11
      clear C1 C2 hok
      clear es
      go_upto_region 6 with fail
      go_cut [25] from 17 to 25 (fun s wx => s = .bool false ∧ Hid (Below w.heap.size w wx))
      case first =>
        go_region_law (fail)
        all_goals
          go_wp2_with fail
          go_meet
          exact ⟨rfl, Lib.hid HB.out.drew⟩
      case rest =>
        obtain ⟨rfl, HD⟩ := hcut
        go_wp2_with fail
        go_roundw
        case rel => exact ⟨j + 1, by go_num, by omega, HD⟩
        case measure => simp [intOf]; omega
    · have i1 : ¬ (j : Int) < (n : Int) := by omega
      go_wp2_with fail
      go_ret
      exact ⟨rfl, HB.out⟩
set_option maxRecDepth 20000 in
set_option maxHeartbeats 16000000 in
theorem ints_same (a b : Option Addr) (n ca cb : Nat) (M : List Int) (hl : M.length = n) (hn : n ≤ 1000000) (w : World) (HA : RI w a M) (HB : RI w b M) :
    Calls Try.prog 12 #[.slice a n ca, .slice b n cb] w fun r w' => r = .returned (.bool true) ∧ Below w.heap.size w w' := by
  have HL := Lib.hid (And.intro hl (And.intro HA HB))
  clear hl HA HB
  go_enter Try.func12, Try.ntmps12
  go_wp2_with fail
  go_loopw [5] (fun z wr => ∃ j : Nat, z = .int .i64 j ∧ j ≤ n ∧ Hid (Below w.heap.size w wr)) (fun z _ => n - (intOf z).toNat)
  case atStart => exact ⟨0, rfl, by omega, Lib.hid (Below.refl _ _)⟩
  case round =>
    obtain ⟨j, rfl, hj, HB⟩ := hrel
    have j0 : (0 : Int) ≤ (j : Int) := by omega
    by_cases hjl : j < n
    · have i1 : (j : Int) < (n : Int) := by omega
      have w1 : IntKind.i64.wrap ((j : Int) + 1) = (j : Int) + 1 := IntWalk.i64_in _ (by omega)
      obtain ⟨x, es⟩ : ∃ x, M[j]? = some x := ⟨_, List.getElem?_eq_getElem (by rw [HL.out.1]; exact hjl)⟩
      obtain ⟨g1, o1, rfl, hg1, d0⟩ := (HL.out.2.1.below HB.out) j x es
      obtain ⟨g2, o2, rfl, hg2, e0⟩ := (HL.out.2.2.below HB.out) j x es
      have eqp : (x != x) = false := by simp
      clear es
      go_upto_region 6 with fail
      go_cut [25] from 17 to 25 (fun s wx => s = .bool false ∧ Hid (Below w.heap.size w wx))
      case first =>
        go_region_law (fail)
        all_goals
          go_wp2_with fail
          go_meet
          exact ⟨rfl, Lib.hid HB.out.drew⟩
      case rest =>
        obtain ⟨rfl, HD⟩ := hcut
        go_wp2_with fail
        go_roundw
        case rel => exact ⟨j + 1, by go_num, by omega, HD⟩
        case measure => simp [intOf]; omega
    · have i1 : ¬ (j : Int) < (n : Int) := by omega
      go_wp2_with fail
      go_ret
      exact ⟨rfl, HB.out⟩
set_option maxRecDepth 20000 in
set_option maxHeartbeats 16000000 in
theorem lf_same (id sc fr : Int) (T : List Ev) (hok : ∀ x ∈ T, x.ok) (nT nS : Nat) (hT : T.length = nT) (hS : (Pj.stE T).length = nS) (hnT : nT ≤ 100000) (hnS : nS ≤ 100000) (r1 r2 r3 r4 rw : Option Addr) (k1 k2 k3 k4 kw : Nat) (rd tk : ByteArray) (eo : Bool) (st : Int) (w : World) (h1 : RE w r1 4 Pj.inC T) (h2 : RE w r2 6 Ev.st (Pj.stE T)) (h3 : RE w r3 4 Pj.inC T) (h4 : RE w r4 6 Ev.st (Pj.stE T)) :
    Calls Try.prog 11 #[.agg #[.int .i64 id, .int .i64 sc, .int .i64 fr, .slice r1 nT k1, .slice r2 nS k2, .string rd, .string tk, .bool eo, .int .i64 st], .agg #[.int .i64 id, .int .i64 sc, .int .i64 fr, .slice r3 nT k3, .slice rw nT kw, .slice r4 nS k4, .string rd, .string tk, .bool eo, .int .i64 st]] w fun r w' => r = .returned (.bool true) ∧ Below w.heap.size w w' := by
  have H1 : Hid (Blk ((w.alloc (.cells #[.int .i64 id, .int .i64 sc, .int .i64 fr, .slice r1 nT k1, .slice r2 nS k2, .string rd, .string tk, .bool eo, .int .i64 st] 27)).alloc (.cells #[.int .i64 id, .int .i64 sc, .int .i64 fr, .slice r3 nT k3, .slice rw nT kw, .slice r4 nS k4, .string rd, .string tk, .bool eo, .int .i64 st] 32)) w.heap.size [.int .i64 id, .int .i64 sc, .int .i64 fr, .slice r1 nT k1, .slice r2 nS k2, .string rd, .string tk, .bool eo, .int .i64 st] 27 ∧ Blk ((w.alloc (.cells #[.int .i64 id, .int .i64 sc, .int .i64 fr, .slice r1 nT k1, .slice r2 nS k2, .string rd, .string tk, .bool eo, .int .i64 st] 27)).alloc (.cells #[.int .i64 id, .int .i64 sc, .int .i64 fr, .slice r3 nT k3, .slice rw nT kw, .slice r4 nS k4, .string rd, .string tk, .bool eo, .int .i64 st] 32)) (w.heap.size + 1) [.int .i64 id, .int .i64 sc, .int .i64 fr, .slice r3 nT k3, .slice rw nT kw, .slice r4 nS k4, .string rd, .string tk, .bool eo, .int .i64 st] 32 ∧ Below w.heap.size w ((w.alloc (.cells #[.int .i64 id, .int .i64 sc, .int .i64 fr, .slice r1 nT k1, .slice r2 nS k2, .string rd, .string tk, .bool eo, .int .i64 st] 27)).alloc (.cells #[.int .i64 id, .int .i64 sc, .int .i64 fr, .slice r3 nT k3, .slice rw nT kw, .slice r4 nS k4, .string rd, .string tk, .bool eo, .int .i64 st] 32)) ∧ RE ((w.alloc (.cells #[.int .i64 id, .int .i64 sc, .int .i64 fr, .slice r1 nT k1, .slice r2 nS k2, .string rd, .string tk, .bool eo, .int .i64 st] 27)).alloc (.cells #[.int .i64 id, .int .i64 sc, .int .i64 fr, .slice r3 nT k3, .slice rw nT kw, .slice r4 nS k4, .string rd, .string tk, .bool eo, .int .i64 st] 32)) r1 4 Pj.inC T ∧ RE ((w.alloc (.cells #[.int .i64 id, .int .i64 sc, .int .i64 fr, .slice r1 nT k1, .slice r2 nS k2, .string rd, .string tk, .bool eo, .int .i64 st] 27)).alloc (.cells #[.int .i64 id, .int .i64 sc, .int .i64 fr, .slice r3 nT k3, .slice rw nT kw, .slice r4 nS k4, .string rd, .string tk, .bool eo, .int .i64 st] 32)) r2 6 Ev.st (Pj.stE T) ∧ RE ((w.alloc (.cells #[.int .i64 id, .int .i64 sc, .int .i64 fr, .slice r1 nT k1, .slice r2 nS k2, .string rd, .string tk, .bool eo, .int .i64 st] 27)).alloc (.cells #[.int .i64 id, .int .i64 sc, .int .i64 fr, .slice r3 nT k3, .slice rw nT kw, .slice r4 nS k4, .string rd, .string tk, .bool eo, .int .i64 st] 32)) r3 4 Pj.inC T ∧ RE ((w.alloc (.cells #[.int .i64 id, .int .i64 sc, .int .i64 fr, .slice r1 nT k1, .slice r2 nS k2, .string rd, .string tk, .bool eo, .int .i64 st] 27)).alloc (.cells #[.int .i64 id, .int .i64 sc, .int .i64 fr, .slice r3 nT k3, .slice rw nT kw, .slice r4 nS k4, .string rd, .string tk, .bool eo, .int .i64 st] 32)) r4 6 Ev.st (Pj.stE T)) := Lib.hid (by
    have b2 := Blk.newA (w.alloc (.cells #[.int .i64 id, .int .i64 sc, .int .i64 fr, .slice r1 nT k1, .slice r2 nS k2, .string rd, .string tk, .bool eo, .int .i64 st] 27)) #[.int .i64 id, .int .i64 sc, .int .i64 fr, .slice r3 nT k3, .slice rw nT kw, .slice r4 nS k4, .string rd, .string tk, .bool eo, .int .i64 st] 32
    rw [World.size_alloc] at b2
    have k : Below w.heap.size w ((w.alloc (.cells #[.int .i64 id, .int .i64 sc, .int .i64 fr, .slice r1 nT k1, .slice r2 nS k2, .string rd, .string tk, .bool eo, .int .i64 st] 27)).alloc (.cells #[.int .i64 id, .int .i64 sc, .int .i64 fr, .slice r3 nT k3, .slice rw nT kw, .slice r4 nS k4, .string rd, .string tk, .bool eo, .int .i64 st] 32)) := ((Below.refl _ _).alloc (Nat.le_refl _) _).alloc (by simp) _
    exact ⟨(Blk.newA w #[.int .i64 id, .int .i64 sc, .int .i64 fr, .slice r1 nT k1, .slice r2 nS k2, .string rd, .string tk, .bool eo, .int .i64 st] 27).alloc _, b2, k, h1.below k, h2.below k, h3.below k, h4.below k⟩)
  have HO := Lib.hid (And.intro hok (And.intro hT hS))
  clear h1 h2 h3 h4 hok hT hS
  go_enter Try.func11, Try.ntmps11
  go_upto_region 1 with fail
  revert H1
  generalize ((w.alloc (.cells #[.int .i64 id, .int .i64 sc, .int .i64 fr, .slice r1 nT k1, .slice r2 nS k2, .string rd, .string tk, .bool eo, .int .i64 st] 27)).alloc (.cells #[.int .i64 id, .int .i64 sc, .int .i64 fr, .slice r3 nT k3, .slice rw nT kw, .slice r4 nS k4, .string rd, .string tk, .bool eo, .int .i64 st] 32)) = V
  intro H1
  have HK : Hid (Below V.heap.size V V) := Lib.hid (Below.refl _ _)
  have x0 := (H1.out.1.below HK.out H1.out.1.lt).cell (i := 0) rfl
  have x1 := (H1.out.1.below HK.out H1.out.1.lt).cell (i := 1) rfl
  have x2 := (H1.out.1.below HK.out H1.out.1.lt).cell (i := 2) rfl
  have x3 := (H1.out.1.below HK.out H1.out.1.lt).cell (i := 3) rfl
  have x4 := (H1.out.1.below HK.out H1.out.1.lt).cell (i := 4) rfl
  have x5 := (H1.out.1.below HK.out H1.out.1.lt).cell (i := 5) rfl
  have x6 := (H1.out.1.below HK.out H1.out.1.lt).cell (i := 6) rfl
  have x7 := (H1.out.1.below HK.out H1.out.1.lt).cell (i := 7) rfl
  have x8 := (H1.out.1.below HK.out H1.out.1.lt).cell (i := 8) rfl
  have y0 := (H1.out.2.1.below HK.out H1.out.2.1.lt).cell (i := 0) rfl
  have y1 := (H1.out.2.1.below HK.out H1.out.2.1.lt).cell (i := 1) rfl
  have y2 := (H1.out.2.1.below HK.out H1.out.2.1.lt).cell (i := 2) rfl
  have y3 := (H1.out.2.1.below HK.out H1.out.2.1.lt).cell (i := 3) rfl
  have y5 := (H1.out.2.1.below HK.out H1.out.2.1.lt).cell (i := 5) rfl
  have y6 := (H1.out.2.1.below HK.out H1.out.2.1.lt).cell (i := 6) rfl
  have y7 := (H1.out.2.1.below HK.out H1.out.2.1.lt).cell (i := 7) rfl
  have y8 := (H1.out.2.1.below HK.out H1.out.2.1.lt).cell (i := 8) rfl
  have y9 := (H1.out.2.1.below HK.out H1.out.2.1.lt).cell (i := 9) rfl
  go_wp2_with (first
    | (go_at_call 19; refine (pj_sameIn r1 r3 nT k1 k3 T HO.out.2.1 hnT HO.out.1 _ (H1.out.2.2.2.1.below HK.out) (H1.out.2.2.2.2.2.1.below HK.out)).mono ?_; rintro rr0 WW0 ⟨rfl, bb⟩; have HK0 := Lib.hid (HK.out.trans (bb.mono HK.out.size)); clear bb; clear x0 x1 x2 x3 x4 x5 x6 x7 x8 y0 y1 y2 y3 y5 y6 y7 y8 y9; have x0 := (H1.out.1.below HK0.out H1.out.1.lt).cell (i := 0) rfl; have x1 := (H1.out.1.below HK0.out H1.out.1.lt).cell (i := 1) rfl; have x2 := (H1.out.1.below HK0.out H1.out.1.lt).cell (i := 2) rfl; have x3 := (H1.out.1.below HK0.out H1.out.1.lt).cell (i := 3) rfl; have x4 := (H1.out.1.below HK0.out H1.out.1.lt).cell (i := 4) rfl; have x5 := (H1.out.1.below HK0.out H1.out.1.lt).cell (i := 5) rfl; have x6 := (H1.out.1.below HK0.out H1.out.1.lt).cell (i := 6) rfl; have x7 := (H1.out.1.below HK0.out H1.out.1.lt).cell (i := 7) rfl; have x8 := (H1.out.1.below HK0.out H1.out.1.lt).cell (i := 8) rfl; have y0 := (H1.out.2.1.below HK0.out H1.out.2.1.lt).cell (i := 0) rfl; have y1 := (H1.out.2.1.below HK0.out H1.out.2.1.lt).cell (i := 1) rfl; have y2 := (H1.out.2.1.below HK0.out H1.out.2.1.lt).cell (i := 2) rfl; have y3 := (H1.out.2.1.below HK0.out H1.out.2.1.lt).cell (i := 3) rfl; have y5 := (H1.out.2.1.below HK0.out H1.out.2.1.lt).cell (i := 5) rfl; have y6 := (H1.out.2.1.below HK0.out H1.out.2.1.lt).cell (i := 6) rfl; have y7 := (H1.out.2.1.below HK0.out H1.out.2.1.lt).cell (i := 7) rfl; have y8 := (H1.out.2.1.below HK0.out H1.out.2.1.lt).cell (i := 8) rfl; have y9 := (H1.out.2.1.below HK0.out H1.out.2.1.lt).cell (i := 9) rfl)
    | (go_at_call 20; refine (pj_sameSteps r2 r4 nS k2 k4 (Pj.stE T) HO.out.2.2 hnS _ (H1.out.2.2.2.2.1.below HK0.out) (H1.out.2.2.2.2.2.2.below HK0.out)).mono ?_; rintro rr1 WW1 ⟨rfl, bb⟩; have HK1 := Lib.hid (HK0.out.trans (bb.mono HK0.out.size)); clear bb; clear x0 x1 x2 x3 x4 x5 x6 x7 x8 y0 y1 y2 y3 y5 y6 y7 y8 y9)
    | fail)
  go_ret
  exact ⟨rfl, H1.out.2.2.1.trans (HK1.out.mono H1.out.2.2.1.size)⟩
/-- The ticks of all rounds. -/
def Ev.clks (L : List Ev) : List Int := (L.filter (fun x => x.k == 1)).map Ev.t
theorem Ev.clks_snoc (L : List Ev) (x : Ev) : Ev.clks (L ++ [x]) = if x.k = 1 then Ev.clks L ++ [x.t] else Ev.clks L := by
  unfold Ev.clks; rw [List.filter_append]
  by_cases h : x.k = 1
  · simp [h]
  · simp [h]
theorem infoI64 : (Try.prog.info? 2).map (fun i => (i.zero, i.size, i.bytes)) = some (some (.int .i64 0), 1, 8) := by kernel_rfl
set_option maxRecDepth 20000 in
set_option maxHeartbeats 16000000 in
theorem pj_clocks (a : Option Addr) (len cap : Nat) (L : List Ev) (hl : L.length = len) (hlm : len ≤ 100000) (D : List Int) (hD : Ev.clks L = D) (n : Nat) (hn : D.length = n) (w : World) (HE : EL w a L) :
    Calls Try.prog 16 #[.slice a len cap] w fun e w' => ∃ r c, e = .returned (.slice r n c) ∧ RI w' r D ∧ Below w.heap.size w w' := by
  have HL := Lib.hid (And.intro hl (And.intro HE (And.intro hD hn)))
  clear hl HE hD hn
  have H0 : Hid (RM w w.heap.size none 0 0 1 ((Ev.clks (L.take 0)).map (Value.int .i64)) 2 ∧ Below w.heap.size w w) := Lib.hid ⟨RM.nil _ _ _ _ (Nat.le_refl _), Below.refl _ _⟩
  go_enter Try.func16, Try.ntmps16
  go_wp2_with fail
  go_loopw [3, 8] (fun o z wr => ∃ (j q c : Nat) (r : Option Addr), o = .slice r q c ∧ z = .int .i64 j ∧ j ≤ len ∧ q ≤ j ∧ Hid (RM wr w.heap.size r q c 1 ((Ev.clks (L.take j)).map (Value.int .i64)) 2 ∧ Below w.heap.size w wr)) (fun _ z _ => len - (intOf z).toNat)
  case atStart => exact ⟨0, 0, 0, none, rfl, rfl, by omega, by omega, H0⟩
  case round =>
    clear H0
    obtain ⟨j, q, c, r, rfl, rfl, hj, hq, HB⟩ := hrel
    have j0 : (0 : Int) ≤ (j : Int) := by omega
    by_cases hjl : j < len
    · have i1 : (j : Int) < (len : Int) := by omega
      have w1 : IntKind.i64.wrap ((j : Int) + 1) = (j : Int) + 1 := IntWalk.i64_in _ (by omega)
      obtain ⟨k, i, n, t, b, e, s0, s1, s2, s3, s4, s5, es⟩ : ∃ k i n t b e s0 s1 s2 s3 s4 s5, L[j]? = some ⟨k, i, n, t, b, e, s0, s1, s2, s3, s4, s5⟩ := ⟨_, _, _, _, _, _, _, _, _, _, _, _, List.getElem?_eq_getElem (by rw [HL.out.1]; exact hjl)⟩
      obtain ⟨hb, ga, o, rfl, hgw, e0, e1, e2, e3, e4, e5, e6, e7, e8, e9, e10, e11⟩ := (HL.out.2.1.below HB.out.2).get es
      obtain ⟨O, hO⟩ : ∃ O, (Ev.clks (L.take j)).map (Value.int .i64) = O := ⟨_, rfl⟩
      have HS : Hid ((Ev.clks (L.take (j + 1))).map (Value.int .i64) = if k = 1 then O ++ [.int .i64 t] else O) := Lib.hid (by
        rw [take_snocE es, Ev.clks_snoc, ← hO]
        dsimp only
        split <;> simp)
      rw [hO] at HB
      clear es hO hb
      go_upto_region 5 with fail
      have H2 : Hid (RM (wr.alloc (.cells #[.int .i64 k, .int .i64 i, .int .i64 n, .int .i64 t, .string b, .int .i64 e, .int .i64 s0, .int .i64 s1, .int .i64 s2, .int .i64 s3, .int .i64 s4, .int .i64 s5] 47)) w.heap.size r q c 1 O 2 ∧ Below w.heap.size w (wr.alloc (.cells #[.int .i64 k, .int .i64 i, .int .i64 n, .int .i64 t, .string b, .int .i64 e, .int .i64 s0, .int .i64 s1, .int .i64 s2, .int .i64 s3, .int .i64 s4, .int .i64 s5] 47)) ∧ Blk (wr.alloc (.cells #[.int .i64 k, .int .i64 i, .int .i64 n, .int .i64 t, .string b, .int .i64 e, .int .i64 s0, .int .i64 s1, .int .i64 s2, .int .i64 s3, .int .i64 s4, .int .i64 s5] 47)) wr.heap.size [.int .i64 k, .int .i64 i, .int .i64 n, .int .i64 t, .string b, .int .i64 e, .int .i64 s0, .int .i64 s1, .int .i64 s2, .int .i64 s3, .int .i64 s4, .int .i64 s5] 47) := Lib.hid ⟨HB.out.1.chg (l := []) ((Chg.refl [] _).alloc _) (by simp), HB.out.2.alloc HB.out.2.size _, Blk.newA _ _ _⟩
      clear e0 e1 e2 e3 e4 e5 e6 e7 e8 e9 e10 e11 hgw HB
      revert H2
      generalize (wr.alloc (.cells #[.int .i64 k, .int .i64 i, .int .i64 n, .int .i64 t, .string b, .int .i64 e, .int .i64 s0, .int .i64 s1, .int .i64 s2, .int .i64 s3, .int .i64 s4, .int .i64 s5] 47)) = W1
      generalize wr.heap.size = X
      intro H2
      have d0 := H2.out.2.2.cell (i := 0) rfl
      have d3 := H2.out.2.2.cell (i := 3) rfl
      by_cases h2 : k = 1
      · subst h2
        go_wp2_with (at_builtin; refine wpList_append_rm _ rfl (.tmp 15) (.tmp 18) 41 41 rfl 2 (.int .i64 0) 1 8 Try.underlying41 infoI64 rfl w.heap.size r q c O rfl (H2.out.1.chg (l := []) ((Chg.refl [] W1).alloc _) (by simp)) _ rfl 1 (by omega) [.int .i64 t] (Src.ofSlice _ Try.underlying41 ⟨_, 0, none⟩ 1 1 [.int .i64 t] rfl (new_atE _ _ _) (by intro v hv; simp at hv; subst hv; rfl)) (by omega) (by omega) ?_; intro g4 c4 w4 r1 r2 r3; have HN : Hid (RM w4 w.heap.size (some ⟨g4, 0, none⟩) (q + 1) c4 1 ((Ev.clks (L.take (j + 1))).map (Value.int .i64)) 2 ∧ Below w.heap.size w w4) := Lib.hid ⟨by rw [HS.out, if_pos rfl]; exact r1, r3.onto (H2.out.2.1.alloc H2.out.2.1.size _) (by have := H2.out.2.1.size; simp; omega) (fun y hy => (H2.out.1.lt y hy).1)⟩; clear r1 r2 r3)
        go_roundw
        case rel => exact ⟨j + 1, q + 1, c4, _, rfl, by go_num, by omega, by omega, HN⟩
        case measure => simp [intOf]; omega
      · have h2b : (k == 1) = false := by simp [h2]
        go_wp2_with fail
        go_roundw
        case rel => exact ⟨j + 1, q, c, r, rfl, by go_num, by omega, by omega, Lib.hid ⟨by rw [HS.out, if_neg h2]; exact H2.out.1, H2.out.2.1⟩⟩
        case measure => simp [intOf]; omega
    · obtain rfl : j = len := by omega
      have i1 : ¬ (j : Int) < (j : Int) := by omega
      have HR : Hid (RI wr r D ∧ q = n) := Lib.hid (by
        have h := HB.out.1
        rw [List.take_of_length_le (by rw [HL.out.1]; exact Nat.le_refl _), HL.out.2.2.1] at h
        have h3 : D.length = q := by have := h.1; rw [List.length_map] at this; omega
        exact ⟨RI.of_rm h h3, by rw [← h3]; exact HL.out.2.2.2⟩)
      obtain rfl : q = n := HR.out.2
      go_wp2_with fail
      go_ret
      first
        | exact ⟨r, c, rfl, HR.out.1, HB.out.2⟩
        | exact ⟨r, ⟨c, rfl⟩, HR.out.1, HB.out.2⟩
end Go.Proofs.Ytdchedkhlfmpeaa
