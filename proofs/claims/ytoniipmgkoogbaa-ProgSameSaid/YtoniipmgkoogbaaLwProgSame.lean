/- P13.2: for every two scripts (their first 8 ops, each cut) and every number: which are the same, that a copy is, and shares nothing; which word a number has. No condition. -/
import Derived.Test.YtoniipmgkoogbaaOpen
import Derived.WalkKit
import Derived.ProofKit
import Derived.OpenShut
import Derived.Test.YtoniipmgkoogbaaPgC
import Derived.Test.YtoniipmgkoogbaaClass
import Derived.Deep.CutRange
import Derived.Deep.CutBlock
import Derived.Deep.RegionLaw
import Derived.Deep.RegionHeld3
namespace Go.Proofs.Ytoniipmgkoogbaa.progSame
open Go.Joins Go.ChangeShapes Go.WideShapes Go.ChangeAt Go.RowKit Go.Deep
open Go.ChangeMaps (open_string)
set_option linter.unusedSimpArgs false
set_option linter.unusedVariables false

section
variable {H : Type} {enc : TypeId × Value → H} {P : Program} {w : World} {base : Nat} {spare : Nat → Bool} {held : Bool}
theorem open_flat4 {r : Reach} {b0 : Nat} {t : TypeId} {f0 f1 f2 f3 : Field} {v : Value} {d : DataW H} {p : List MemPlace} (hs : P.underlying t = some (.struct #[f0, f1, f2, f3])) (hone : oneCellFields P #[f0, f1, f2, f3] = true) (hC : P.cellsOf t = 4)
    (hv : Value.okWide P w r b0 t v) (h : DataW.Trod enc P w base spare held t v d p) :
    ∃ (v0 v1 v2 v3 : Value) (y0 y1 y2 y3 : DataW H × List MemPlace) (n : Nat), v = .agg #[v0, v1, v2, v3] ∧ d = .agg [y0.1, y1.1, y2.1, y3.1] ∧ True ∧
      DataW.trod enc P w base spare held n f0.type [v0] = some y0 ∧ DataW.trod enc P w base spare held n f1.type [v1] = some y1 ∧ DataW.trod enc P w base spare held n f2.type [v2] = some y2 ∧ DataW.trod enc P w base spare held n f3.type [v3] = some y3 := by
  obtain ⟨cs, rfl, hsz⟩ := okWide_struct hs hv
  obtain ⟨l⟩ := cs
  match l, hsz.trans hC with
  | [c0, c1, c2, c3], _ =>
    obtain ⟨fuel, hf⟩ := h
    obtain ⟨xs, n, _, hx, _, hlen, hg⟩ := DataW.trod_struct hs hf
    obtain ⟨o0, k0⟩ := hone_of hone 0 f0 rfl
    obtain ⟨o1, k1⟩ := hone_of hone 1 f1 rfl
    obtain ⟨o2, k2⟩ := hone_of hone 2 f2 rfl
    obtain ⟨o3, k3⟩ := hone_of hone 3 f3 rfl
    match xs, hlen with
    | [y0, y1, y2, y3], _ =>
      simp only [Prod.mk.injEq] at hx
      exact ⟨c0, c1, c2, c3, y0, y1, y2, y3, n, rfl, by simpa using hx.1, trivial, by simpa [Value.cells, o0, k0] using hg 0 f0 rfl, by simpa [Value.cells, o1, k1] using hg 1 f1 rfl, by simpa [Value.cells, o2, k2] using hg 2 f2 rfl, by simpa [Value.cells, o3, k3] using hg 3 f3 rfl⟩
end
set_option maxRecDepth 20000 in
set_option maxHeartbeats 16000000 in

theorem walk (a0_Name : ByteArray) (a0_Deadline : Int) (a0_Jumps : Int) (a0_Ops : Option Addr) (len0_Ops cap0_Ops : Nat) (a1_Name : ByteArray) (a1_Deadline : Int) (a1_Jumps : Int) (a1_Ops : Option Addr) (len1_Ops cap1_Ops : Nat) (a2 : Int) (w : World) (w0_Name : a0_Name.size ≤ maxLen) (w0_Deadline : (Lit.int .i64 a0_Deadline).wf = true) (w0_Jumps : (Lit.int .i64 a0_Jumps).wf = true) (w0_Ops : IsAny Try.prog [3, 9, 2, 3, 25, 3, 3] w a0_Ops len0_Ops cap0_Ops) (w1_Name : a1_Name.size ≤ maxLen) (w1_Deadline : (Lit.int .i64 a1_Deadline).wf = true) (w1_Jumps : (Lit.int .i64 a1_Jumps).wf = true) (w1_Ops : IsAny Try.prog [3, 9, 2, 3, 25, 3, 3] w a1_Ops len1_Ops cap1_Ops) (w2 : (Lit.int .i64 a2).wf = true) :
    Calls Try.prog 4 #[.agg #[.string a0_Name, .int .i64 a0_Deadline, .int .i64 a0_Jumps, .slice a0_Ops len0_Ops cap0_Ops], .agg #[.string a1_Name, .int .i64 a1_Deadline, .int .i64 a1_Jumps, .slice a1_Ops len1_Ops cap1_Ops], .int .i64 a2] w fun e w' => e = .returned (.bool true) ∧ Below w.heap.size w w' := by
  obtain ⟨L00, hL00, hO00⟩ := ol_in w0_Ops
  have hn0 : len0_Ops ≤ maxLen := Nat.le_trans w0_Ops.1 w0_Ops.2.1
  obtain ⟨nm0, hnm0⟩ : ∃ t, cutT a0_Name 20 = t := ⟨_, rfl⟩
  obtain ⟨L0, hL0⟩ : ∃ L, Pg.cutP 8 L00 = L := ⟨_, rfl⟩
  obtain ⟨m0, hm0⟩ : ∃ m, L0.length = m := ⟨_, rfl⟩
  have hm80 : m0 ≤ 8 := by rw [← hm0, ← hL0, cutP_len]; omega
  have hnm200 : nm0.size ≤ 20 := by rw [← hnm0]; exact cutT_le _ _
  have hmx0 : m0 ≤ maxLen := by unfold maxLen; omega
  have hnmx0 : nm0.size ≤ maxLen := by unfold maxLen; omega
  have HP0 : Hid (L00.length = len0_Ops ∧ OL w a0_Ops L00 ∧ cutT a0_Name 20 = nm0 ∧ Pg.cutP 8 L00 = L0 ∧ L0.length = m0 ∧ cutT nm0 20 = nm0 ∧ Pg.cutP 8 L0 = L0 ∧ (∀ o ∈ L0, Pg.okO o) ∧ ∀ o ∈ L0, o.ar.length ≤ 1000) := Lib.hid ⟨hL00, hO00, hnm0, hL0, hm0, cutT_id nm0 20 hnm200, by rw [← hL0]; exact cutP_self 8 L00, by rw [← hL0]; exact cutP_ok, by rw [← hL0]; exact cutP_ar⟩
  clear hL00 hO00 hnm0 hL0 hm0 hnm200
  obtain ⟨L01, hL01, hO01⟩ := ol_in w1_Ops
  have hn1 : len1_Ops ≤ maxLen := Nat.le_trans w1_Ops.1 w1_Ops.2.1
  obtain ⟨nm1, hnm1⟩ : ∃ t, cutT a1_Name 20 = t := ⟨_, rfl⟩
  obtain ⟨L1, hL1⟩ : ∃ L, Pg.cutP 8 L01 = L := ⟨_, rfl⟩
  obtain ⟨m1, hm1⟩ : ∃ m, L1.length = m := ⟨_, rfl⟩
  have hm81 : m1 ≤ 8 := by rw [← hm1, ← hL1, cutP_len]; omega
  have hnm201 : nm1.size ≤ 20 := by rw [← hnm1]; exact cutT_le _ _
  have hmx1 : m1 ≤ maxLen := by unfold maxLen; omega
  have hnmx1 : nm1.size ≤ maxLen := by unfold maxLen; omega
  have HP1 : Hid (L01.length = len1_Ops ∧ OL w a1_Ops L01 ∧ cutT a1_Name 20 = nm1 ∧ Pg.cutP 8 L01 = L1 ∧ L1.length = m1 ∧ cutT nm1 20 = nm1 ∧ Pg.cutP 8 L1 = L1 ∧ (∀ o ∈ L1, Pg.okO o) ∧ ∀ o ∈ L1, o.ar.length ≤ 1000) := Lib.hid ⟨hL01, hO01, hnm1, hL1, hm1, cutT_id nm1 20 hnm201, by rw [← hL1]; exact cutP_self 8 L01, by rw [← hL1]; exact cutP_ok, by rw [← hL1]; exact cutP_ar⟩
  clear hL01 hO01 hnm1 hL1 hm1 hnm201
  obtain ⟨s, hs⟩ : ∃ s, Pg.word a2 = s := ⟨_, rfl⟩
  have HW := Lib.hid hs
  have h80 : Hid ((8 : Int) = ((8 : Nat) : Int)) := Lib.hid rfl
  have h81 : (8 : Nat) ≤ 1000 := by omega
  obtain ⟨r, hr⟩ : ∃ r, Pg.sameP nm0 a0_Deadline a0_Jumps L0 nm1 a1_Deadline a1_Jumps L1 = r := ⟨_, rfl⟩
  have HR := Lib.hid hr
  clear hs hr
  have H0 : Hid (S2 w ((w.alloc (.cells #[.string a0_Name, .int .i64 a0_Deadline, .int .i64 a0_Jumps, .slice a0_Ops len0_Ops cap0_Ops] 24)).alloc (.cells #[.string a1_Name, .int .i64 a1_Deadline, .int .i64 a1_Jumps, .slice a1_Ops len1_Ops cap1_Ops] 24)) [.string a0_Name, .int .i64 a0_Deadline, .int .i64 a0_Jumps, .slice a0_Ops len0_Ops cap0_Ops] [.string a1_Name, .int .i64 a1_Deadline, .int .i64 a1_Jumps, .slice a1_Ops len1_Ops cap1_Ops]) := Lib.hid (FS.new (w := w) #[.string a0_Name, .int .i64 a0_Deadline, .int .i64 a0_Jumps, .slice a0_Ops len0_Ops cap0_Ops] #[.string a1_Name, .int .i64 a1_Deadline, .int .i64 a1_Jumps, .slice a1_Ops len1_Ops cap1_Ops])
  go_enter Try.func4, Try.ntmps4
  go_upto_region 1 with fail
  revert H0
  generalize ((w.alloc (.cells #[.string a0_Name, .int .i64 a0_Deadline, .int .i64 a0_Jumps, .slice a0_Ops len0_Ops cap0_Ops] 24)).alloc (.cells #[.string a1_Name, .int .i64 a1_Deadline, .int .i64 a1_Jumps, .slice a1_Ops len1_Ops cap1_Ops] 24)) = W0
  intro H0
  go_cut [6] from 11 to 14 (fun s6 wx => s6 = .bool false ∧ ∃ (gA kA : Nat) (TA : List (Pg.Op × Option Addr × Nat)) (gB kB : Nat) (TB : List (Pg.Op × Option Addr × Nat)), Hid (TA.map (·.1) = L0 ∧ TB.map (·.1) = L1 ∧ S4 w wx [.string nm0, .int .i64 a0_Deadline, .int .i64 a0_Jumps, .slice (some ⟨gA, 0, none⟩) m0 kA] [.string nm1, .int .i64 a1_Deadline, .int .i64 a1_Jumps, .slice (some ⟨gB, 0, none⟩) m1 kB] gA kA TA gB kB TB))
  case first =>
    have HS : Hid (S2 w W0.drew [.string a0_Name, .int .i64 a0_Deadline, .int .i64 a0_Jumps, .slice a0_Ops len0_Ops cap0_Ops] [.string a1_Name, .int .i64 a1_Deadline, .int .i64 a1_Jumps, .slice a1_Ops len1_Ops cap1_Ops]) := Lib.hid (H0.out.below (Below.refl _ _).drew)
    clear H0
    have c0 := HS.out.1.cell (i := 0) rfl
    have d0 := HS.out.2.1.cell (i := 0) rfl
    have fc0 := HS.out.1.free 0
    have fd0 := HS.out.2.1.free 0
    have c1 := HS.out.1.cell (i := 1) rfl
    have d1 := HS.out.2.1.cell (i := 1) rfl
    have fc1 := HS.out.1.free 1
    have fd1 := HS.out.2.1.free 1
    have c2 := HS.out.1.cell (i := 2) rfl
    have d2 := HS.out.2.1.cell (i := 2) rfl
    have fc2 := HS.out.1.free 2
    have fd2 := HS.out.2.1.free 2
    have c3 := HS.out.1.cell (i := 3) rfl
    have d3 := HS.out.2.1.cell (i := 3) rfl
    have fc3 := HS.out.1.free 3
    have fd3 := HS.out.2.1.free 3
    
    go_region_law (first
      | (rw [if_pos (by simp [Region.wanted])]; unfold Oper.wp; go_simp; go_at_call 8; (with_reducible refine (few13 a0_Name a0_Deadline a0_Jumps a0_Ops len0_Ops cap0_Ops L00 HP0.out.1 hn0 w0_Name 8 h81 nm0 HP0.out.2.2.1 L0 HP0.out.2.2.2.1 m0 HP0.out.2.2.2.2.1 8 h80.out _ (HP0.out.2.1.below (S2.bel HS.out))).mono ?_); rintro r VA ⟨gA, kA, TA, rfl, q1, q2, q3⟩; have HSn := Lib.hid (HS.out.below q3); have HA : Hid (TA.map (·.1) = L0 ∧ PR VA (w.heap.size + 2) gA kA TA) := Lib.hid ⟨q1, q2.mono HS.out.2.1.lt⟩; (first | (have HBn := Lib.hid (And.intro HB.out.1 (HB.out.2.below q3)); clear HB; have HB := HBn; clear HBn) | skip); clear HS q1 q2 q3; have HS := HSn; clear HSn; clear c0 d0 fc0 fd0 c1 d1 fc1 fd1 c2 d2 fc2 fd2 c3 d3 fc3 fd3; have c0 := HS.out.1.cell (i := 0) rfl; have d0 := HS.out.2.1.cell (i := 0) rfl; have fc0 := HS.out.1.free 0; have fd0 := HS.out.2.1.free 0; have c1 := HS.out.1.cell (i := 1) rfl; have d1 := HS.out.2.1.cell (i := 1) rfl; have fc1 := HS.out.1.free 1; have fd1 := HS.out.2.1.free 1; have c2 := HS.out.1.cell (i := 2) rfl; have d2 := HS.out.2.1.cell (i := 2) rfl; have fc2 := HS.out.1.free 2; have fd2 := HS.out.2.1.free 2; have c3 := HS.out.1.cell (i := 3) rfl; have d3 := HS.out.2.1.cell (i := 3) rfl; have fc3 := HS.out.1.free 3; have fd3 := HS.out.2.1.free 3; skip)
      | (rw [if_pos (by simp [Region.wanted])]; unfold Oper.wp; go_simp; go_at_call 8; (with_reducible refine (few13 a1_Name a1_Deadline a1_Jumps a1_Ops len1_Ops cap1_Ops L01 HP1.out.1 hn1 w1_Name 8 h81 nm1 HP1.out.2.2.1 L1 HP1.out.2.2.2.1 m1 HP1.out.2.2.2.2.1 8 h80.out _ (HP1.out.2.1.below (S2.bel HS.out))).mono ?_); rintro r VB ⟨gB, kB, TB, rfl, q1, q2, q3⟩; have HSn := Lib.hid (HS.out.below q3); have HB : Hid (TB.map (·.1) = L1 ∧ PR VB (w.heap.size + 2) gB kB TB) := Lib.hid ⟨q1, q2.mono HS.out.2.1.lt⟩; (first | (have HBn := Lib.hid (And.intro HA.out.1 (HA.out.2.below q3)); clear HA; have HA := HBn; clear HBn) | skip); clear HS q1 q2 q3; have HS := HSn; clear HSn; clear c0 d0 fc0 fd0 c1 d1 fc1 fd1 c2 d2 fc2 fd2 c3 d3 fc3 fd3; have c0 := HS.out.1.cell (i := 0) rfl; have d0 := HS.out.2.1.cell (i := 0) rfl; have fc0 := HS.out.1.free 0; have fd0 := HS.out.2.1.free 0; have c1 := HS.out.1.cell (i := 1) rfl; have d1 := HS.out.2.1.cell (i := 1) rfl; have fc1 := HS.out.1.free 1; have fd1 := HS.out.2.1.free 1; have c2 := HS.out.1.cell (i := 2) rfl; have d2 := HS.out.2.1.cell (i := 2) rfl; have fc2 := HS.out.1.free 2; have fd2 := HS.out.2.1.free 2; have c3 := HS.out.1.cell (i := 3) rfl; have d3 := HS.out.2.1.cell (i := 3) rfl; have fc3 := HS.out.1.free 3; have fd3 := HS.out.2.1.free 3; skip))
    all_goals
      go_wp2_with fail
      go_meet
      exact ⟨rfl, gA, kA, TA, gB, kB, TB, Lib.hid ⟨HA.out.1, HB.out.1, (((((((((show S4 w _ _ _ gA kA TA gB kB TB from ⟨HS.out, HA.out.2, HB.out.2⟩).setA 0 (.string nm0)).setA 1 (.int .i64 a0_Deadline)).setA 2 (.int .i64 a0_Jumps)).setA 3 (.slice (some ⟨gA, 0, none⟩) m0 kA)).setB 0 (.string nm1)).setB 1 (.int .i64 a1_Deadline)).setB 2 (.int .i64 a1_Jumps)).setB 3 (.slice (some ⟨gB, 0, none⟩) m1 kB))⟩⟩
  case rest =>
    obtain ⟨rfl, gA, kA, TA, gB, kB, TB, HT⟩ := hcut
    clear H0
    obtain ⟨B0, hB0, hAhi⟩ := HT.out.2.2.2.1.hiB
    have HAhi := Lib.hid hAhi
    clear hAhi
    have HBlo : Hid (w.heap.size + 2 ≤ B0) := Lib.hid (by rw [hB0]; exact HT.out.2.2.1.2.1.lt)
    have HB0 := Lib.hid hB0
    clear hB0
    go_upto_region 2 with fail
    go_cut [7, 8] from 15 to 18 (fun s7 s8 wy => ∃ (X Y gC kC gM kM : Nat) (TC TM : List (Pg.Op × Option Addr × Nat)), s7 = .pointer (some ⟨X, 0, none⟩) ∧ s8 = .pointer (some ⟨Y, 0, none⟩) ∧ Hid (TC.map (·.1) = L0 ∧ TM.map (·.1) = L0 ∧ S4 w wy [.string nm0, .int .i64 a0_Deadline, .int .i64 a0_Jumps, .slice (some ⟨gA, 0, none⟩) m0 kA] [.string nm1, .int .i64 a1_Deadline, .int .i64 a1_Jumps, .slice (some ⟨gB, 0, none⟩) m1 kB] gA kA TA gB kB TB ∧ PR wy B0 gC kC TC ∧ PR wy B0 gM kM TM ∧ (Blk wy X [.string nm0, .int .i64 a0_Deadline, .int .i64 a0_Jumps, .slice (some ⟨gC, 0, none⟩) m0 kC] 24 ∧ w.heap.size + 2 ≤ X) ∧ (Blk wy Y [.string nm0, .int .i64 a0_Deadline, .int .i64 a0_Jumps, .slice (some ⟨gM, 0, none⟩) m0 kM] 24 ∧ w.heap.size + 2 ≤ Y) ∧ X ≠ Y ∧ Apt gC TC gM TM ∧ Apt gM TM gC TC))
    case first =>
      have hTA : TA.length = m0 := by
        have := congrArg List.length HT.out.1
        rw [List.length_map, HP0.out.2.2.2.2.1] at this
        exact this
      have harA : ∀ t ∈ TA, t.1.ar.length ≤ 1000 := fun t ht => HP0.out.2.2.2.2.2.2.2.2 t.1 (by rw [← HT.out.1]; exact List.mem_map_of_mem ht)
      have HTA := Lib.hid (And.intro hTA harA)
      clear hTA harA
      refine wp_region_env (fun env L w' => RG2 w B0 [.string nm0, .int .i64 a0_Deadline, .int .i64 a0_Jumps, .slice (some ⟨gA, 0, none⟩) m0 kA] [.string nm1, .int .i64 a1_Deadline, .int .i64 a1_Jumps, .slice (some ⟨gB, 0, none⟩) m1 kB] gA kA TA gB kB TB (fun g k => #[.string nm0, .int .i64 a0_Deadline, .int .i64 a0_Jumps, .slice (some ⟨g, 0, none⟩) m0 k]) L0 L0 env L w') (fun _ => undef) (by kernel_rfl) (by kernel_rfl) (by kernel_rfl) (by kernel_rfl) ?h0 ?hstep ?hend
      case h0 => exact ⟨0, 0, [], 0, 0, [], ⟨HT.out.2.2.below (Below.refl _ _).drew, by rw [HB0.out]; exact Nat.le_refl _⟩, by simp, by simp, by simp, by simp, by simp, by simp, by simp, by simp⟩
      case hstep =>
        refine ⟨?o0, ?o1, ?o2, ?o3, ?o4, ?o5, ?o6, ?o7, trivial⟩
        case o0 =>
          intro E env L w' hcl hL hp hd ho2 hC
          have hC0 := hC
          obtain ⟨gC, kC, TC, gM, kM, TM, hS, k0, k2, k1, k3, k13, k4, k5, k45⟩ := hC0
          have x3 : E.eval (.tmp 3) = .pointer (some ⟨w.heap.size, 0, none⟩) := ho2 3 (by kernel_rfl)
          have c0 := hS.1.1.1.cell (i := 0) rfl
          have c1 := hS.1.1.1.cell (i := 1) rfl
          have c2 := hS.1.1.1.cell (i := 2) rfl
          have c3 := hS.1.1.1.cell (i := 3) rfl
          refine wp_val (v := .agg #[.string nm0, .int .i64 a0_Deadline, .int .i64 a0_Jumps, .slice (some ⟨gA, 0, none⟩) m0 kA]) (w' := w') ?_ ⟨_, rfl, hC.load0⟩
          simp only [execOp, x3]
          go_simp
        case o1 =>
          intro E env L w' hcl hL hp hd ho2 hC
          have hC0 := hC
          obtain ⟨gC, kC, TC, gM, kM, TM, hS, k0, k2, k1, k3, k13, k4, k5, k45⟩ := hC0
          have d0 : L 0 = true := hp ⟨0, .data⟩ (by simp) rfl
          have x0 : E.eval (.tmp 15) = .agg #[.string nm0, .int .i64 a0_Deadline, .int .i64 a0_Jumps, .slice (some ⟨gA, 0, none⟩) m0 kA] := (hd 0 15 d0 rfl (by simp)).trans (k0 d0)
          have hL6 : L 6 = false := by
            cases h0 : L 6 with
            | false => rfl
            | true =>
              have h1 := hcl 6 _ rfl h0 ⟨1, .data⟩ (by simp) rfl
              exact absurd (h1.symm.trans hL) (by simp)
          have hC2 := Lib.hid hC
          have HS2 := Lib.hid hS.1
          clear hS k0 k2 k1 k3 k13 k4 k5 k45
          have x1 : E.tmps[15]?.getD undef = .agg #[.string nm0, .int .i64 a0_Deadline, .int .i64 a0_Jumps, .slice (some ⟨gA, 0, none⟩) m0 kA] := by simpa [Act.eval] using x0
          clear hC x0 hd ho2 hcl hp
          unfold Oper.wp
          simp only [execOp]
          go_simp
          (try rw [x1])
          go_at_call 9
          refine (pg_copy nm0 a0_Deadline a0_Jumps gA kA TA m0 HTA.out.1 (by omega) HTA.out.2 _ _ HS2.out.2.1).mono ?_
          rintro r V ⟨gN, kN, TN, rfl, q1, q2, q3⟩
          exact ⟨_, rfl, hC2.out.call1 hL6 q3 (q1.trans HT.out.1) q2⟩
        case o2 =>
          intro E env L w' hcl hL hp hd ho2 hC
          have hC0 := hC
          obtain ⟨gC, kC, TC, gM, kM, TM, hS, k0, k2, k1, k3, k13, k4, k5, k45⟩ := hC0
          have x3 : E.eval (.tmp 3) = .pointer (some ⟨w.heap.size, 0, none⟩) := ho2 3 (by kernel_rfl)
          have c0 := hS.1.1.1.cell (i := 0) rfl
          have c1 := hS.1.1.1.cell (i := 1) rfl
          have c2 := hS.1.1.1.cell (i := 2) rfl
          have c3 := hS.1.1.1.cell (i := 3) rfl
          refine wp_val (v := .agg #[.string nm0, .int .i64 a0_Deadline, .int .i64 a0_Jumps, .slice (some ⟨gA, 0, none⟩) m0 kA]) (w' := w') ?_ ⟨_, rfl, hC.load2⟩
          simp only [execOp, x3]
          go_simp
        case o3 =>
          intro E env L w' hcl hL hp hd ho2 hC
          have hC0 := hC
          obtain ⟨gC, kC, TC, gM, kM, TM, hS, k0, k2, k1, k3, k13, k4, k5, k45⟩ := hC0
          have d0 : L 2 = true := hp ⟨2, .data⟩ (by simp) rfl
          have x0 : E.eval (.tmp 17) = .agg #[.string nm0, .int .i64 a0_Deadline, .int .i64 a0_Jumps, .slice (some ⟨gA, 0, none⟩) m0 kA] := (hd 2 17 d0 rfl (by simp)).trans (k2 d0)
          have hL7 : L 7 = false := by
            cases h0 : L 7 with
            | false => rfl
            | true =>
              have h1 := hcl 7 _ rfl h0 ⟨3, .data⟩ (by simp) rfl
              exact absurd (h1.symm.trans hL) (by simp)
          have hC2 := Lib.hid hC
          have HS2 := Lib.hid hS.1
          clear hS k0 k2 k1 k3 k13 k4 k5 k45
          have x1 : E.tmps[17]?.getD undef = .agg #[.string nm0, .int .i64 a0_Deadline, .int .i64 a0_Jumps, .slice (some ⟨gA, 0, none⟩) m0 kA] := by simpa [Act.eval] using x0
          clear hC x0 hd ho2 hcl hp
          unfold Oper.wp
          simp only [execOp]
          go_simp
          (try rw [x1])
          go_at_call 8
          refine (few13 nm0 a0_Deadline a0_Jumps (some ⟨gA, 0, none⟩) m0 kA L0 HP0.out.2.2.2.2.1 hmx0 hnmx0 8 h81 nm0 HP0.out.2.2.2.2.2.1 L0 HP0.out.2.2.2.2.2.2.1 m0 HP0.out.2.2.2.2.1 8 h80.out _ (HS2.out.2.1.ol2 HT.out.1 HP0.out.2.2.2.2.2.2.2.1)).mono ?_
          rintro r V ⟨gN, kN, TN, rfl, q1, q2, q3⟩
          exact ⟨_, rfl, hC2.out.call3 hL7 q3 q1 q2⟩
        case o4 =>
          intro E env L w' hcl hL hp hd ho2 hC
          have hC0 := hC
          obtain ⟨gC, kC, TC, gM, kM, TM, hS, k0, k2, k1, k3, k13, k4, k5, k45⟩ := hC0
          have hL6 : L 6 = false := by
            cases h0 : L 6 with
            | false => rfl
            | true =>
              have h1 := hcl 6 _ rfl h0 ⟨4, .data⟩ (by simp) rfl
              exact absurd (h1.symm.trans hL) (by simp)
          refine wp_val (v := .pointer (some ⟨w'.heap.size, 0, none⟩)) (w' := w'.alloc (.cells #[.string ⟨#[]⟩, .int .i64 0, .int .i64 0, .slice none 0 0] 24)) ?_ ⟨_, rfl, hC.alloc4 hL6 #[.string ⟨#[]⟩, .int .i64 0, .int .i64 0, .slice none 0 0] rfl⟩
          simp only [execOp]
          go_simp
        case o5 =>
          intro E env L w' hcl hL hp hd ho2 hC
          have hC0 := hC
          obtain ⟨gC, kC, TC, gM, kM, TM, hS, k0, k2, k1, k3, k13, k4, k5, k45⟩ := hC0
          have hL7 : L 7 = false := by
            cases h0 : L 7 with
            | false => rfl
            | true =>
              have h1 := hcl 7 _ rfl h0 ⟨5, .data⟩ (by simp) rfl
              exact absurd (h1.symm.trans hL) (by simp)
          refine wp_val (v := .pointer (some ⟨w'.heap.size, 0, none⟩)) (w' := w'.alloc (.cells #[.string ⟨#[]⟩, .int .i64 0, .int .i64 0, .slice none 0 0] 24)) ?_ ⟨_, rfl, hC.alloc5 hL7 #[.string ⟨#[]⟩, .int .i64 0, .int .i64 0, .slice none 0 0] rfl⟩
          simp only [execOp]
          go_simp
        case o6 =>
          intro E env L w' hcl hL hp hd ho2 hC
          have hC0 := hC
          obtain ⟨gC, kC, TC, gM, kM, TM, hS, k0, k2, k1, k3, k13, k4, k5, k45⟩ := hC0
          have d4 : L 4 = true := hp ⟨4, .data⟩ (by simp) rfl
          have d1 : L 1 = true := hp ⟨1, .data⟩ (by simp) rfl
          obtain ⟨e1, _, _⟩ := k1 d1
          obtain ⟨X, cs, e4, hX, hB, hl, _⟩ := k4 d4
          clear k0 k2 k1 k3 k13 k4 k5 k45 hS
          have x7 : E.eval (.tmp 7) = .pointer (some ⟨X, 0, none⟩) := (hd 4 7 d4 rfl (by simp)).trans e4
          have x16 : E.eval (.tmp 16) = .agg #[.string nm0, .int .i64 a0_Deadline, .int .i64 a0_Jumps, .slice (some ⟨gC, 0, none⟩) m0 kC] := (hd 1 16 d1 rfl (by simp)).trans e1
          obtain ⟨b0, b1, b2, b3, rfl⟩ : ∃ b0 b1 b2 b3, cs = [b0, b1, b2, b3] := by
            match cs, hl with
            | [a, b, c, d], _ => exact ⟨a, b, c, d, rfl⟩
          have y0 := hB.cell (i := 0) rfl
          have y1 := hB.cell (i := 1) rfl
          have y2 := hB.cell (i := 2) rfl
          have y3 := hB.cell (i := 3) rfl
          have f0 := hB.free 0
          have f1 := hB.free 1
          have f2 := hB.free 2
          have f3 := hB.free 3
          have kc : Chg [X] w' ((((w'.setCell ⟨X, 0, none⟩ (.string nm0)).setCell ⟨X, 1, none⟩ (.int .i64 a0_Deadline)).setCell ⟨X, 2, none⟩ (.int .i64 a0_Jumps)).setCell ⟨X, 3, none⟩ (.slice (some ⟨gC, 0, none⟩) m0 kC)) := ((((Chg.refl [X] w').set (Or.inl (by simp)) 0 _).set (Or.inl (by simp)) 1 _).set (Or.inl (by simp)) 2 _).set (Or.inl (by simp)) 3 _
          have hN := hC.store6 d4 e4 kc ((((hB.set 0 (.string nm0)).set 1 (.int .i64 a0_Deadline)).set 2 (.int .i64 a0_Jumps)).set 3 (.slice (some ⟨gC, 0, none⟩) m0 kC)) rfl e1 undef
          refine wp_skp (w' := ((((w'.setCell ⟨X, 0, none⟩ (.string nm0)).setCell ⟨X, 1, none⟩ (.int .i64 a0_Deadline)).setCell ⟨X, 2, none⟩ (.int .i64 a0_Jumps)).setCell ⟨X, 3, none⟩ (.slice (some ⟨gC, 0, none⟩) m0 kC))) ?_ ⟨_, rfl, hN⟩
          simp only [execOp, x7, x16]
          go_simp
        case o7 =>
          intro E env L w' hcl hL hp hd ho2 hC
          have hC0 := hC
          obtain ⟨gC, kC, TC, gM, kM, TM, hS, k0, k2, k1, k3, k13, k4, k5, k45⟩ := hC0
          have d4 : L 5 = true := hp ⟨5, .data⟩ (by simp) rfl
          have d1 : L 3 = true := hp ⟨3, .data⟩ (by simp) rfl
          obtain ⟨e1, _, _⟩ := k3 d1
          obtain ⟨X, cs, e4, hX, hB, hl, _⟩ := k5 d4
          clear k0 k2 k1 k3 k13 k4 k5 k45 hS
          have x7 : E.eval (.tmp 8) = .pointer (some ⟨X, 0, none⟩) := (hd 5 8 d4 rfl (by simp)).trans e4
          have x16 : E.eval (.tmp 18) = .agg #[.string nm0, .int .i64 a0_Deadline, .int .i64 a0_Jumps, .slice (some ⟨gM, 0, none⟩) m0 kM] := (hd 3 18 d1 rfl (by simp)).trans e1
          obtain ⟨b0, b1, b2, b3, rfl⟩ : ∃ b0 b1 b2 b3, cs = [b0, b1, b2, b3] := by
            match cs, hl with
            | [a, b, c, d], _ => exact ⟨a, b, c, d, rfl⟩
          have y0 := hB.cell (i := 0) rfl
          have y1 := hB.cell (i := 1) rfl
          have y2 := hB.cell (i := 2) rfl
          have y3 := hB.cell (i := 3) rfl
          have f0 := hB.free 0
          have f1 := hB.free 1
          have f2 := hB.free 2
          have f3 := hB.free 3
          have kc : Chg [X] w' ((((w'.setCell ⟨X, 0, none⟩ (.string nm0)).setCell ⟨X, 1, none⟩ (.int .i64 a0_Deadline)).setCell ⟨X, 2, none⟩ (.int .i64 a0_Jumps)).setCell ⟨X, 3, none⟩ (.slice (some ⟨gM, 0, none⟩) m0 kM)) := ((((Chg.refl [X] w').set (Or.inl (by simp)) 0 _).set (Or.inl (by simp)) 1 _).set (Or.inl (by simp)) 2 _).set (Or.inl (by simp)) 3 _
          have hN := hC.store7 d4 e4 kc ((((hB.set 0 (.string nm0)).set 1 (.int .i64 a0_Deadline)).set 2 (.int .i64 a0_Jumps)).set 3 (.slice (some ⟨gM, 0, none⟩) m0 kM)) rfl e1 undef
          refine wp_skp (w' := ((((w'.setCell ⟨X, 0, none⟩ (.string nm0)).setCell ⟨X, 1, none⟩ (.int .i64 a0_Deadline)).setCell ⟨X, 2, none⟩ (.int .i64 a0_Jumps)).setCell ⟨X, 3, none⟩ (.slice (some ⟨gM, 0, none⟩) m0 kM))) ?_ ⟨_, rfl, hN⟩
          simp only [execOp, x7, x16]
          go_simp
      case hend =>
        intro env w' hC
        obtain ⟨gC, kC, TC, gM, kM, TM, hS0, e0, e2, h1, h3, h13, h4, h5, hne⟩ := hC
        have hS := hS0.1
        have ap := h13 rfl rfl
        obtain ⟨e1, t1, p1⟩ := h1 rfl
        obtain ⟨e3, t3, p3⟩ := h3 rfl
        obtain ⟨X, csX, e4, lX, bX, _, vX⟩ := h4 rfl
        obtain ⟨Y, csY, e5, lY, bY, _, vY⟩ := h5 rfl
        have e0 := e0 rfl
        have e2 := e2 rfl
        have hne := hne rfl rfl
        have vx := (vX rfl).symm.trans e1
        have vy := (vY rfl).symm.trans e3
        have hx : csX = [.string nm0, .int .i64 a0_Deadline, .int .i64 a0_Jumps, .slice (some ⟨gC, 0, none⟩) m0 kC] := by
          injection vx with vx
          have := congrArg Array.toList vx
          simpa using this
        have hy : csY = [.string nm0, .int .i64 a0_Deadline, .int .i64 a0_Jumps, .slice (some ⟨gM, 0, none⟩) m0 kM] := by
          injection vy with vy
          have := congrArg Array.toList vy
          simpa using this
        subst hx hy
        have hXY : X ≠ Y := fun e => hne (by rw [e4, e5, e])
        have HN := Lib.hid (And.intro t1 (And.intro t3 (And.intro hS (And.intro p1 (And.intro p3 (And.intro (And.intro bX lX) (And.intro (And.intro bY lY) (And.intro hXY ap))))))))
        clear hS0 h13 ap t1 t3 hS p1 p3 bX bY lX lY hne vX vY h1 h3 h4 h5 vx vy
        simp only [putsE, Act.put, e4, e5, List.setIfInBounds_toArray, List.set_cons_zero, List.set_cons_succ]
        go_wp2_with fail
        go_meet
        exact ⟨X, Y, gC, kC, gM, kM, TC, TM, rfl, rfl, HN⟩
    case rest =>
      obtain ⟨X, Y, gC, kC, gM, kM, TC, TM, rfl, rfl, HV0⟩ := hcut
      have HV : Hid (TA.map (·.1) = L0 ∧ TB.map (·.1) = L1 ∧ TC.map (·.1) = L0 ∧ TM.map (·.1) = L0) := Lib.hid ⟨HT.out.1, HT.out.2.1, HV0.out.1, HV0.out.2.1⟩
      have HZ : Hid (Z5 w B0 _ [.string nm0, .int .i64 a0_Deadline, .int .i64 a0_Jumps, .slice (some ⟨gA, 0, none⟩) m0 kA] [.string nm1, .int .i64 a1_Deadline, .int .i64 a1_Jumps, .slice (some ⟨gB, 0, none⟩) m1 kB] [.string nm0, .int .i64 a0_Deadline, .int .i64 a0_Jumps, .slice (some ⟨gC, 0, none⟩) m0 kC] [.string nm0, .int .i64 a0_Deadline, .int .i64 a0_Jumps, .slice (some ⟨gM, 0, none⟩) m0 kM] X Y gA kA TA gB kB TB gC kC TC gM kM TM) := Lib.hid HV0.out.2.2
      clear HT HV0
      have HSELF := Lib.hid (sameP_self nm0 a0_Deadline a0_Jumps L0)
      go_upto_region 3 with fail
      go_cut [40] from 19 to 39 (fun s40 wz => s40 = .bool false ∧ Hid (Z5 w B0 wz [.string nm0, .int .i64 a0_Deadline, .int .i64 a0_Jumps, .slice (some ⟨gA, 0, none⟩) m0 kA] [.string nm1, .int .i64 a1_Deadline, .int .i64 a1_Jumps, .slice (some ⟨gB, 0, none⟩) m1 kB] [.string nm0, .int .i64 a0_Deadline, .int .i64 a0_Jumps, .slice (some ⟨gC, 0, none⟩) m0 kC] [.string nm0, .int .i64 a0_Deadline, .int .i64 a0_Jumps, .slice (some ⟨gM, 0, none⟩) m0 kM] X Y gA kA TA gB kB TB gC kC TC gM kM TM))
      case first =>
        have HS := Lib.hid (HZ.out.below (Below.refl _ _).drew)
        clear HZ
        have s0 := s12 HS.out.1.1.1 HS.out.1.1.2.1 HS.out.2.2.2.1.1
        go_region_held3 (fun w' => w'.cell? ⟨w.heap.size, 0, none⟩ = some (.string nm0) ∧ w'.cell? ⟨w.heap.size, 1, none⟩ = some (.int .i64 a0_Deadline) ∧ w'.cell? ⟨w.heap.size, 2, none⟩ = some (.int .i64 a0_Jumps) ∧ w'.cell? ⟨w.heap.size, 3, none⟩ = some (.slice (some ⟨gA, 0, none⟩) m0 kA) ∧ w'.cell? ⟨w.heap.size + 1, 0, none⟩ = some (.string nm1) ∧ w'.cell? ⟨w.heap.size + 1, 1, none⟩ = some (.int .i64 a1_Deadline) ∧ w'.cell? ⟨w.heap.size + 1, 2, none⟩ = some (.int .i64 a1_Jumps) ∧ w'.cell? ⟨w.heap.size + 1, 3, none⟩ = some (.slice (some ⟨gB, 0, none⟩) m1 kB) ∧ w'.cell? ⟨X, 0, none⟩ = some (.string nm0) ∧ w'.cell? ⟨X, 1, none⟩ = some (.int .i64 a0_Deadline) ∧ w'.cell? ⟨X, 2, none⟩ = some (.int .i64 a0_Jumps) ∧ w'.cell? ⟨X, 3, none⟩ = some (.slice (some ⟨gC, 0, none⟩) m0 kC)) (first | with_reducible exact s0 | with_reducible exact sFA | with_reducible exact sFB | with_reducible exact sP | with_reducible exact sR | with_reducible exact sQ | with_reducible exact sV) (first
          | (go_at_call 8; (with_reducible refine (few13 nm0 a0_Deadline a0_Jumps (some ⟨gA, 0, none⟩) m0 kA L0 HP0.out.2.2.2.2.1 hmx0 hnmx0 8 h81 nm0 HP0.out.2.2.2.2.2.1 L0 HP0.out.2.2.2.2.2.2.1 m0 HP0.out.2.2.2.2.1 8 h80.out _ (Z5.a HS.out HV.out.1 HP0.out.2.2.2.2.2.2.2.1)).mono ?_); rintro r VF ⟨gF, kF, TF, rfl, q1, q2, q3⟩; have HFA : Hid (OL VF (some ⟨gF, 0, none⟩) L0) := Lib.hid (q2.ol2 q1 HP0.out.2.2.2.2.2.2.2.1); have HSn := Lib.hid (HS.out.below q3); (first | (have HFBn := Lib.hid (HFB.out.below q3); clear HFB; have HFB := HFBn; clear HFBn) | skip); clear HS; have HS := HSn; clear HSn q1 q2 q3; have sFA := s12 HS.out.1.1.1 HS.out.1.1.2.1 HS.out.2.2.2.1.1)
          | (go_at_call 8; (with_reducible refine (few13 nm1 a1_Deadline a1_Jumps (some ⟨gB, 0, none⟩) m1 kB L1 HP1.out.2.2.2.2.1 hmx1 hnmx1 8 h81 nm1 HP1.out.2.2.2.2.2.1 L1 HP1.out.2.2.2.2.2.2.1 m1 HP1.out.2.2.2.2.1 8 h80.out _ (Z5.b HS.out HV.out.2.1 HP1.out.2.2.2.2.2.2.2.1)).mono ?_); rintro r VG ⟨gG, kG, TG, rfl, q1, q2, q3⟩; have HFB : Hid (OL VG (some ⟨gG, 0, none⟩) L1) := Lib.hid (q2.ol2 q1 HP1.out.2.2.2.2.2.2.2.1); have HSn := Lib.hid (HS.out.below q3); (first | (have HFAn := Lib.hid (HFA.out.below q3); clear HFA; have HFA := HFAn; clear HFAn) | skip); clear HS; have HS := HSn; clear HSn q1 q2 q3; have sFB := s12 HS.out.1.1.1 HS.out.1.1.2.1 HS.out.2.2.2.1.1)
          | (go_at_call 10; refine (pg_same nm0 nm1 a0_Deadline a1_Deadline a0_Jumps a1_Jumps _ _ m0 m1 kF kG L0 L1 HP0.out.2.2.2.2.1 HP1.out.2.2.2.2.1 hmx0 r HR.out _ HFA.out HFB.out).mono ?_; rintro e VP ⟨rfl, q3⟩; have HSn := Lib.hid (HS.out.below q3); (first | (have HFAn := Lib.hid (HFA.out.below q3); clear HFA; have HFA := HFAn; clear HFAn) | skip); (first | (have HFBn := Lib.hid (HFB.out.below q3); clear HFB; have HFB := HFBn; clear HFBn) | skip); clear HS; have HS := HSn; clear HSn; have sP := s12 HS.out.1.1.1 HS.out.1.1.2.1 HS.out.2.2.2.1.1; clear q3)
          | (go_at_call 11; (with_reducible refine (rf_same nm0 nm1 a0_Deadline a1_Deadline a0_Jumps a1_Jumps _ _ m0 m1 kA kB L0 L1 HP0.out.2.2.2.2.1 HP1.out.2.2.2.2.1 hmx0 r HR.out _ (Z5.a HS.out HV.out.1 HP0.out.2.2.2.2.2.2.2.1) (Z5.b HS.out HV.out.2.1 HP1.out.2.2.2.2.2.2.2.1)).mono ?_); rintro e VR ⟨rfl, q3⟩; have HSn := Lib.hid (HS.out.below q3); (first | (have HFAn := Lib.hid (HFA.out.below q3); clear HFA; have HFA := HFAn; clear HFAn) | skip); (first | (have HFBn := Lib.hid (HFB.out.below q3); clear HFB; have HFB := HFBn; clear HFBn) | skip); clear HS; have HS := HSn; clear HSn; have sR := s12 HS.out.1.1.1 HS.out.1.1.2.1 HS.out.2.2.2.1.1; clear q3)
          | (go_at_call 11; (with_reducible refine (rf_same nm0 nm0 a0_Deadline a0_Deadline a0_Jumps a0_Jumps _ _ m0 m0 kC kA L0 L0 HP0.out.2.2.2.2.1 HP0.out.2.2.2.2.1 hmx0 true HSELF.out _ (Z5.c HS.out HV.out.2.2.1 HP0.out.2.2.2.2.2.2.2.1) (Z5.a HS.out HV.out.1 HP0.out.2.2.2.2.2.2.2.1)).mono ?_); rintro e VQ ⟨rfl, q3⟩; have HSn := Lib.hid (HS.out.below q3); (first | (have HFAn := Lib.hid (HFA.out.below q3); clear HFA; have HFA := HFAn; clear HFAn) | skip); (first | (have HFBn := Lib.hid (HFB.out.below q3); clear HFB; have HFB := HFBn; clear HFBn) | skip); clear HS; have HS := HSn; clear HSn; have sQ := s12 HS.out.1.1.1 HS.out.1.1.2.1 HS.out.2.2.2.1.1; clear q3)
          | (go_at_call 12; refine (pg_word a2 s HW.out _).mono ?_; rintro e VW ⟨rfl, rfl⟩)
          | (go_at_call 13; refine (rf_word a2 w2 s HW.out _).mono ?_; rintro e VV ⟨rfl, q3⟩; have HSn := Lib.hid (HS.out.below q3); (first | (have HFAn := Lib.hid (HFA.out.below q3); clear HFA; have HFA := HFAn; clear HFAn) | skip); (first | (have HFBn := Lib.hid (HFB.out.below q3); clear HFB; have HFB := HFBn; clear HFBn) | skip); clear HS; have HS := HSn; clear HSn; have sV := s12 HS.out.1.1.1 HS.out.1.1.2.1 HS.out.2.2.2.1.1; clear q3))
        all_goals
          go_wp2_with fail
          go_meet
          exact ⟨rfl, HS⟩
      case rest =>
        obtain ⟨rfl, HZ2⟩ := hcut
        clear HZ
        have HL5 : Hid (LW w _ [.string nm0, .int .i64 a0_Deadline, .int .i64 a0_Jumps, .slice (some ⟨gA, 0, none⟩) m0 kA] [.string nm1, .int .i64 a1_Deadline, .int .i64 a1_Jumps, .slice (some ⟨gB, 0, none⟩) m1 kB] [.string nm0, .int .i64 a0_Deadline, .int .i64 a0_Jumps, .slice (some ⟨gC, 0, none⟩) m0 kC] [.string nm0, .int .i64 a0_Deadline, .int .i64 a0_Jumps, .slice (some ⟨gM, 0, none⟩) m0 kM] X Y B0 gA kA TA gM kM TM gC TC) := Lib.hid ⟨HZ2.out.1.1, HZ2.out.1.2.1, HZ2.out.2.2.1, HZ2.out.2.2.2.1, HZ2.out.2.2.2.2.1, MO.of HZ2.out.2.1⟩
        have HSEP : Hid ((Out gA TA gC ∧ Out gM TM gC ∧ w.heap.size + 2 ≤ gC) ∧ ∀ t ∈ TC, ∀ b, t.2.1 = some ⟨b, 0, none⟩ → Out gA TA b ∧ Out gM TM b ∧ w.heap.size + 2 ≤ b) := Lib.hid (by
          obtain ⟨l1, l2⟩ := HZ2.out.2.1.lob
          obtain ⟨u1, u2⟩ := HAhi.out
          have hlo := HBlo.out
          have ap := HZ2.out.2.2.2.2.2.2.2
          have oA : ∀ x, B0 ≤ x → Out gA TA x := fun x hx => ⟨by omega, fun t ht e => by have := u2 t ht _ e; omega⟩
          exact ⟨⟨oA _ l1, ap.1, by omega⟩, fun t ht b hb => ⟨oA _ (l2 t ht b hb), ap.2 t ht b hb, by have := l2 t ht b hb; omega⟩⟩)
        have hTC : TC.length = m0 := by
          have := congrArg List.length HV.out.2.2.1
          rw [List.length_map, HP0.out.2.2.2.2.1] at this
          exact this
        have HTC := Lib.hid hTC
        have HAR : Hid (∀ t ∈ TC, t.1.ar.length ≤ 1000) := Lib.hid (fun t ht => HP0.out.2.2.2.2.2.2.2.2 t.1 (by rw [← HV.out.2.2.1]; exact List.mem_map_of_mem ht))
        clear hTC HZ2
        go_upto_region 6 with fail
        go_loopw [9, 10] (fun i9 _ wr => ∃ j : Nat, i9 = .int .i64 j ∧ j ≤ m0 ∧ Hid (LW w wr [.string nm0, .int .i64 a0_Deadline, .int .i64 a0_Jumps, .slice (some ⟨gA, 0, none⟩) m0 kA] [.string nm1, .int .i64 a1_Deadline, .int .i64 a1_Jumps, .slice (some ⟨gB, 0, none⟩) m1 kB] [.string nm0, .int .i64 a0_Deadline, .int .i64 a0_Jumps, .slice (some ⟨gC, 0, none⟩) m0 kC] [.string nm0, .int .i64 a0_Deadline, .int .i64 a0_Jumps, .slice (some ⟨gM, 0, none⟩) m0 kM] X Y B0 gA kA TA gM kM TM gC TC)) (fun i9 _ _ => m0 - (intOf i9).toNat)
        case atStart => exact ⟨0, rfl, by omega, HL5⟩
        case round =>
          clear HL5
          obtain ⟨j, rfl, hj, HB5⟩ := hrel
          have i0 : (0 : Int) ≤ (j : Int) := by omega
          have c3 := HB5.out.2.2.2.1.1.cell (i := 3) rfl
          have a3 := HB5.out.1.1.cell (i := 3) rfl
          by_cases hjm : j < m0
          · have i1 : (j : Int) < (m0 : Int) := by omega
            have w1 : IntKind.i64.wrap ((j : Int) + 1) = (j : Int) + 1 := IntWalk.i64_in _ (by omega)
            obtain ⟨t, ht⟩ : ∃ t, TC[j]? = some t := ⟨_, List.getElem?_eq_getElem (by rw [HTC.out]; exact hjm)⟩
            obtain ⟨n2, hn2⟩ : ∃ n, t.1.ar.length = n := ⟨_, rfl⟩
            have hn3 : n2 ≤ 1000 := by rw [← hn2]; exact HAR.out t (List.mem_of_getElem? ht)
            have HTJ := Lib.hid (And.intro ht hn2)
            obtain ⟨⟨cs, hb, h1⟩, h2⟩ := HB5.out.2.2.2.2.2
            obtain ⟨k, p1, _⟩ := h1 j t ht
            obtain ⟨kk, hkk⟩ : ∃ kk, IntKind.i64.wrap (k + 1) = kk := ⟨_, rfl⟩
            have HCS := Lib.hid hb
            have z0 : wr.drew.cell? ⟨gC, j * 7, none⟩ = some (.int .i64 k) := hb.cell p1
            have f0 : wr.drew.frozen? ⟨gC, j * 7, none⟩ = false := hb.free (j * 7)
            have c3d : wr.drew.cell? ⟨X, 3, none⟩ = some (.slice (some ⟨gC, 0, none⟩) m0 kC) := c3
            clear h1 h2 p1 hb ht hn2
            go_upto_region 8 with fail
            clear c3 a3
            go_cut [6] from 55 to 66 (fun s6 wz => s6 = .bool false ∧ Hid (LW w wz [.string nm0, .int .i64 a0_Deadline, .int .i64 a0_Jumps, .slice (some ⟨gA, 0, none⟩) m0 kA] [.string nm1, .int .i64 a1_Deadline, .int .i64 a1_Jumps, .slice (some ⟨gB, 0, none⟩) m1 kB] [.string nm0, .int .i64 a0_Deadline, .int .i64 a0_Jumps, .slice (some ⟨gC, 0, none⟩) m0 kC] [.string nm0, .int .i64 a0_Deadline, .int .i64 a0_Jumps, .slice (some ⟨gM, 0, none⟩) m0 kM] X Y B0 gA kA TA gM kM TM gC TC))
            case first =>
              go_region_law (fail)
              all_goals
                go_wp2_with fail
                go_meet
                exact ⟨rfl, Lib.hid ((HB5.out.below (Below.refl _ _).drew).put HCS.out.drew (by decide) HSEP.out.1.2.2 HSEP.out.1.1 HSEP.out.1.2.1 ((Chg.refl [gC] _).set (Or.inl (by simp)) _ _) ((HB5.out.below (Below.refl _ _).drew).2.2.2.2.2.kind (by rw [HTC.out]; exact hjm) kk))⟩
            case rest =>
              obtain ⟨rfl, HB6⟩ := hcut
              clear HB5 z0 f0 c3d HCS
              go_upto_region 10 with fail
              go_loopw [10] (fun i wr => ∃ q : Nat, i = .int .i64 q ∧ q ≤ n2 ∧ Hid (LW w wr [.string nm0, .int .i64 a0_Deadline, .int .i64 a0_Jumps, .slice (some ⟨gA, 0, none⟩) m0 kA] [.string nm1, .int .i64 a1_Deadline, .int .i64 a1_Jumps, .slice (some ⟨gB, 0, none⟩) m1 kB] [.string nm0, .int .i64 a0_Deadline, .int .i64 a0_Jumps, .slice (some ⟨gC, 0, none⟩) m0 kC] [.string nm0, .int .i64 a0_Deadline, .int .i64 a0_Jumps, .slice (some ⟨gM, 0, none⟩) m0 kM] X Y B0 gA kA TA gM kM TM gC TC)) (fun i _ => n2 - (intOf i).toNat)
              case atStart => exact ⟨0, rfl, by omega, HB6⟩
              case round =>
                clear HB6
                obtain ⟨q, rfl, hq, HB7⟩ := hrel
                have q0 : (0 : Int) ≤ (q : Int) := by omega
                have c3 := HB7.out.2.2.2.1.1.cell (i := 3) rfl
                obtain ⟨⟨cs, hb, h1⟩, h2⟩ := HB7.out.2.2.2.2.2
                obtain ⟨k, _, p2⟩ := h1 j t HTJ.out.1
                obtain ⟨b, cs2, e1, e2, e3⟩ := h2 j t HTJ.out.1
                rw [e1, HTJ.out.2] at p2
                rw [HTJ.out.2] at e3
                have z4 := hb.cell p2
                have HE := Lib.hid (And.intro e1 e2)
                clear h1 h2 p2 hb e1
                by_cases hqn : q < n2
                · have q1 : (q : Int) < (n2 : Int) := by omega
                  have w2 : IntKind.i64.wrap ((q : Int) + 1) = (q : Int) + 1 := IntWalk.i64_in _ (by omega)
                  obtain ⟨v, hv⟩ : ∃ v, cs2[q * 2 + 1]? = some v := ⟨_, List.getElem?_eq_getElem (show q * 2 + 1 < cs2.length by omega)⟩
                  have y1 := e2.cell hv
                  have yf := e2.free (q * 2 + 1)
                  clear e2 e3 hv
                  go_wp2_with fail
                  go_roundw
                  case rel => exact ⟨q + 1, by go_num, by omega, Lib.hid (HB7.out.put HE.out.2 (by decide) (HSEP.out.2 t (List.mem_of_getElem? HTJ.out.1) b HE.out.1).2.2 (HSEP.out.2 t (List.mem_of_getElem? HTJ.out.1) b HE.out.1).1 (HSEP.out.2 t (List.mem_of_getElem? HTJ.out.1) b HE.out.1).2.1 ((Chg.refl [b] _).set (Or.inl (by simp)) _ _) (HB7.out.2.2.2.2.2.arm HE.out.2 _ _))⟩
                  case measure => simp [intOf]; omega
                · have q1 : ¬ (q : Int) < (n2 : Int) := by omega
                  clear e2 e3
                  go_wp2_with fail
                  go_roundw
                  case rel => exact ⟨j + 1, by go_num, by omega, HB7⟩
                  case measure => simp [intOf]; omega
          · have i1 : ¬ (j : Int) < (m0 : Int) := by omega
            have a0 := HB5.out.1.1.cell (i := 0) rfl
            have a1 := HB5.out.1.1.cell (i := 1) rfl
            have a2' := HB5.out.1.1.cell (i := 2) rfl
            have y0 := HB5.out.2.2.2.2.1.1.cell (i := 0) rfl
            have y1 := HB5.out.2.2.2.2.1.1.cell (i := 1) rfl
            have y2 := HB5.out.2.2.2.2.1.1.cell (i := 2) rfl
            have y3 := HB5.out.2.2.2.2.1.1.cell (i := 3) rfl
            go_wp2_with (first
              | (go_at_call 11; refine (rf_same nm0 nm0 a0_Deadline a0_Deadline a0_Jumps a0_Jumps _ _ m0 m0 kA kM L0 L0 HP0.out.2.2.2.2.1 HP0.out.2.2.2.2.1 hmx0 true HSELF.out _ (HB5.out.2.1.ol2 HV.out.1 HP0.out.2.2.2.2.2.2.2.1) (HB5.out.2.2.1.ol2 HV.out.2.2.2 HP0.out.2.2.2.2.2.2.2.1)).mono ?_; rintro e V1 ⟨rfl, q3⟩; have HC5 := Lib.hid (HB5.out.below q3); clear q3 a0 a1 a2' a3 y0 y1 y2 y3 c3; have a0 := HC5.out.1.1.cell (i := 0) rfl; have a1 := HC5.out.1.1.cell (i := 1) rfl; have a2' := HC5.out.1.1.cell (i := 2) rfl; have a3 := HC5.out.1.1.cell (i := 3) rfl; have y0 := HC5.out.2.2.2.2.1.1.cell (i := 0) rfl; have y1 := HC5.out.2.2.2.2.1.1.cell (i := 1) rfl; have y2 := HC5.out.2.2.2.2.1.1.cell (i := 2) rfl; have y3 := HC5.out.2.2.2.2.1.1.cell (i := 3) rfl)
              | (go_at_call 10; refine (pg_same nm0 nm0 a0_Deadline a0_Deadline a0_Jumps a0_Jumps _ _ m0 m0 kA kM L0 L0 HP0.out.2.2.2.2.1 HP0.out.2.2.2.2.1 hmx0 true HSELF.out _ (HC5.out.2.1.ol2 HV.out.1 HP0.out.2.2.2.2.2.2.2.1) (HC5.out.2.2.1.ol2 HV.out.2.2.2 HP0.out.2.2.2.2.2.2.2.1)).mono ?_; rintro e V2 ⟨rfl, q3⟩; have HD5 := Lib.hid (HC5.out.1.2.2.trans (q3.mono HC5.out.1.2.2.size)); clear q3)
              | (go_at_call 7; refine (lives13 _).mono ?_; rintro e V3 ⟨rfl, q3⟩; have HE5 := Lib.hid (HD5.out.trans (q3.mono HD5.out.size)); clear q3)
              | fail)
            go_ret
            exact ⟨rfl, HE5.out⟩

set_option maxRecDepth 100000 in
theorem lifted (os : Os) (started : os.Started) (H : Type) (enc : TypeId × Value → H) :
    ReturnsInHanded {} Try.checked os 4 .any (Rows.progSameSpec.pre6 enc Try.prog Try.f4 Rows.progSameRow.domain false) (Rows.progSameSpec.post enc Try.prog Try.f4 false true false false) := by
  refine returnsInHanded_of_change (C := Try.checked) ownKn started (by kernel_rfl) Try.func4
    (ChangeSpec.witness6 (enc := enc) (C := Try.checked) false ⟨#[], #[.agg #[.string ByteArray.empty, .int .i64 0, .int .i64 0, .slice none 0 0], .agg #[.string ByteArray.empty, .int .i64 0, .int .i64 0, .slice none 0 0], .int .i64 0], []⟩ 8 (by kernel_rfl) (by kernel_rfl) (by kernel_rfl) (by kernel_rfl)) ?_
  intro W base args ds gs before hval0 hW hcnd _
  have hval : ∀ (j : Nat) t v, Try.f4.params[j]? = some t → args[j]? = some v → Value.okWide Try.prog W .any base t v := hval0
  have hW' := hW
  obtain ⟨p, q, hA0, hV, rfl, hfz, hnd⟩ := hW
  have hA : DataW.TrodAll enc Try.prog W 0 (fun _ => true) true Try.f4.params.toList args.toList ds p := hA0
  rw [Try.params4] at hA hval
  obtain ⟨v0, vs0, d0, ds0, p0, q0, hargs, rfl, rfl, h0, r0⟩ := trodAll_cons hA
  obtain ⟨v1, vs1, d1, ds1, p1, q1, rfl, rfl, rfl, h1, r1⟩ := trodAll_cons r0
  obtain ⟨v2, vs2, d2, ds2, p2, q2, rfl, rfl, rfl, h2, r2⟩ := trodAll_cons r1
  obtain ⟨rfl, rfl, rfl⟩ := trodAll_nil r2
  obtain rfl : args = #[v0, v1, v2] := by cases args; simp_all
  obtain ⟨rfl, rfl⟩ := trodVars_none hV
  have k0 := h0
  have lt0 : ∀ x ∈ p0, x.block < W.heap.size := by obtain ⟨m, hm⟩ := k0; exact DataW.trod_lt m _ _ _ hm
  obtain ⟨u0_0, u0_1, u0_2, u0_3, y0_0, y0_1, y0_2, y0_3, nn0, rfl, _, _, g0_0, g0_1, g0_2, g0_3⟩ := open_flat4 Try.underlying24 (by kernel_rfl) (by kernel_rfl) (hval 0 24 v0 rfl rfl) h0
  obtain ⟨a0_Name, rfl, w0_Name⟩ := fld_string Try.underlying9 g0_0
  obtain ⟨a0_Deadline, rfl, w0_Deadline⟩ := fld_int Try.underlying2 g0_1
  obtain ⟨a0_Jumps, rfl, w0_Jumps⟩ := fld_int Try.underlying3 g0_2
  obtain ⟨a0_Ops, len0_Ops, cap0_Ops, rfl, w0_Ops⟩ := fld_any [3, 9, 2, 3, 25, 3, 3] Try.underlying22 Try.underlying27 (by kernel_rfl) (by kernel_rfl) rfl (by decide) g0_3
  have k1 := h1
  have lt1 : ∀ x ∈ p1, x.block < W.heap.size := by obtain ⟨m, hm⟩ := k1; exact DataW.trod_lt m _ _ _ hm
  obtain ⟨u1_0, u1_1, u1_2, u1_3, y1_0, y1_1, y1_2, y1_3, nn1, rfl, _, _, g1_0, g1_1, g1_2, g1_3⟩ := open_flat4 Try.underlying24 (by kernel_rfl) (by kernel_rfl) (hval 1 24 v1 rfl rfl) h1
  obtain ⟨a1_Name, rfl, w1_Name⟩ := fld_string Try.underlying9 g1_0
  obtain ⟨a1_Deadline, rfl, w1_Deadline⟩ := fld_int Try.underlying2 g1_1
  obtain ⟨a1_Jumps, rfl, w1_Jumps⟩ := fld_int Try.underlying3 g1_2
  obtain ⟨a1_Ops, len1_Ops, cap1_Ops, rfl, w1_Ops⟩ := fld_any [3, 9, 2, 3, 25, 3, 3] Try.underlying22 Try.underlying27 (by kernel_rfl) (by kernel_rfl) rfl (by decide) g1_3
  have k2 := h2
  have lt2 : ∀ x ∈ p2, x.block < W.heap.size := by obtain ⟨m, hm⟩ := k2; exact DataW.trod_lt m _ _ _ hm
  obtain ⟨a2, rfl, rfl, rfl, w2⟩ := open_int Try.underlying3 (hval 2 3 v2 rfl rfl) h2
  clear hA0 hval0
  refine (walk a0_Name a0_Deadline a0_Jumps a0_Ops len0_Ops cap0_Ops a1_Name a1_Deadline a1_Jumps a1_Ops len1_Ops cap1_Ops a2 W w0_Name w0_Deadline w0_Jumps w0_Ops w1_Name w1_Deadline w1_Jumps w1_Ops w2).mono fun e W' ⟨he, bel⟩ => ?_
  subst he
  exact ⟨_, rfl, _, _, _, [], _, [], hW', trodAll_mk1 (shut_bool Try.underlying4 _), (trodAll_cons_mk (Below.trod laidOut (by kernel_rfl) (of_decide_eq_true (by kernel_rfl)) k0 bel lt0) (trodAll_cons_mk (Below.trod laidOut (by kernel_rfl) (of_decide_eq_true (by kernel_rfl)) k1 bel lt1) (trodAll_cons_mk (Below.trod laidOut (by kernel_rfl) (of_decide_eq_true (by kernel_rfl)) k2 bel lt2) trodAll_mk0))), rfl, bel.frame _, fun h => by cases h⟩

theorem over : Rows.progSameRow.holds Try.pinned (OpenSpec.ofChange Rows.progSameSpec) :=
  OpenClaim.holds_of_wide 4 Try.f4 rfl rfl rfl rfl rfl rfl rfl ⟨rfl, rfl, rfl, rfl, rfl⟩ rfl rfl rfl rfl rfl (by kernel_rfl) Try.func4 (by kernel_rfl)
    (of_decide_eq_true (by kernel_rfl)) (by unfold Func.isWrapper; first | (rw [if_pos (by decide +kernel)]; kernel_rfl) | (rw [if_neg (by decide +kernel)]; exact ⟨rfl, rfl⟩))
    (fun os started H enc _ => lifted os started H enc)

/-- The statement. -/
theorem proved : Rows.ProgSameSaid := over
#print axioms proved
end Go.Proofs.Ytoniipmgkoogbaa.progSame
