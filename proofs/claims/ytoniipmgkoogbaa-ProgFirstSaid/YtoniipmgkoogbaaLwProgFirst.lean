/- P13.3: for every script (its first 10 ops, each cut) and every op: what stands behind the op that is told changes nothing of what is told. No condition. -/
import Derived.Test.YtoniipmgkoogbaaOpen
import Derived.Test.YtoniipmgkoogbaaMix
import Derived.WalkKit
import Derived.ProofKit
import Derived.OpenShut
import Derived.Test.YtoniipmgkoogbaaPgB
import Derived.Test.YtoniipmgkoogbaaClass
import Derived.Deep.CutRange
import Derived.Deep.CutBlock
import Derived.Deep.RegionLaw
import Derived.Deep.RegionHeld3
namespace Go.Proofs.Ytoniipmgkoogbaa.progFirst
open Go.Joins Go.ChangeShapes Go.WideShapes Go.ChangeAt Go.RowKit Go.Deep
open Go.ChangeMaps (open_string)
set_option linter.unusedSimpArgs false
set_option linter.unusedVariables false

section
variable {H : Type} {enc : TypeId × Value → H} {P : Program} {w : World} {base : Nat} {spare : Nat → Bool} {held : Bool}
theorem open_flat4 {r : Reach} {b0 : Nat} {t : TypeId} {f0 f1 f2 f3 : Field} {v : Value} {d : DataW H} {p : List MemPlace} (hs : P.underlying t = some (.struct #[f0, f1, f2, f3])) (hone : oneCellFields P #[f0, f1, f2, f3] = true) (hC : P.cellsOf t = 4)
    (hv : Value.okWide P w r b0 t v) (h : DataW.Trod enc P w base spare held t v d p) :
    ∃ (v0 v1 v2 v3 : Value) (y0 y1 y2 y3 : DataW H × List MemPlace) (n : Nat), v = .agg #[v0, v1, v2, v3] ∧ d = .agg [y0.1, y1.1, y2.1, y3.1] ∧ True ∧
      DataW.trod enc P w base spare held n f0.type [v0] = some y0 ∧ DataW.trod enc P w base spare held n f1.type [v1] = some y1 ∧ DataW.trod enc P w base spare held n f2.type [v2] = some y2 ∧ DataW.trod enc P w base spare held n f3.type [v3] = some y3 := by
  obtain ⟨cs, rfl, hsz⟩ := okWide_struct hs hv
  obtain ⟨l⟩ := cs
  match l, hsz.trans hC with
  | [c0, c1, c2, c3], _ =>
    obtain ⟨fuel, hf⟩ := h
    obtain ⟨xs, n, _, hx, _, hlen, hg⟩ := DataW.trod_struct hs hf
    obtain ⟨o0, k0⟩ := hone_of hone 0 f0 rfl
    obtain ⟨o1, k1⟩ := hone_of hone 1 f1 rfl
    obtain ⟨o2, k2⟩ := hone_of hone 2 f2 rfl
    obtain ⟨o3, k3⟩ := hone_of hone 3 f3 rfl
    match xs, hlen with
    | [y0, y1, y2, y3], _ =>
      simp only [Prod.mk.injEq] at hx
      exact ⟨c0, c1, c2, c3, y0, y1, y2, y3, n, rfl, by simpa using hx.1, trivial, by simpa [Value.cells, o0, k0] using hg 0 f0 rfl, by simpa [Value.cells, o1, k1] using hg 1 f1 rfl, by simpa [Value.cells, o2, k2] using hg 2 f2 rfl, by simpa [Value.cells, o3, k3] using hg 3 f3 rfl⟩
end
section
variable {H : Type} {enc : TypeId × Value → H} {P : Program} {w : World} {base : Nat} {spare : Nat → Bool} {held : Bool}
theorem open_flat7 {r : Reach} {b0 : Nat} {t : TypeId} {f0 f1 f2 f3 f4 f5 f6 : Field} {v : Value} {d : DataW H} {p : List MemPlace} (hs : P.underlying t = some (.struct #[f0, f1, f2, f3, f4, f5, f6])) (hone : oneCellFields P #[f0, f1, f2, f3, f4, f5, f6] = true) (hC : P.cellsOf t = 7)
    (hv : Value.okWide P w r b0 t v) (h : DataW.Trod enc P w base spare held t v d p) :
    ∃ (v0 v1 v2 v3 v4 v5 v6 : Value) (y0 y1 y2 y3 y4 y5 y6 : DataW H × List MemPlace) (n : Nat), v = .agg #[v0, v1, v2, v3, v4, v5, v6] ∧ d = .agg [y0.1, y1.1, y2.1, y3.1, y4.1, y5.1, y6.1] ∧ True ∧
      DataW.trod enc P w base spare held n f0.type [v0] = some y0 ∧ DataW.trod enc P w base spare held n f1.type [v1] = some y1 ∧ DataW.trod enc P w base spare held n f2.type [v2] = some y2 ∧ DataW.trod enc P w base spare held n f3.type [v3] = some y3 ∧ DataW.trod enc P w base spare held n f4.type [v4] = some y4 ∧ DataW.trod enc P w base spare held n f5.type [v5] = some y5 ∧ DataW.trod enc P w base spare held n f6.type [v6] = some y6 := by
  obtain ⟨cs, rfl, hsz⟩ := okWide_struct hs hv
  obtain ⟨l⟩ := cs
  match l, hsz.trans hC with
  | [c0, c1, c2, c3, c4, c5, c6], _ =>
    obtain ⟨fuel, hf⟩ := h
    obtain ⟨xs, n, _, hx, _, hlen, hg⟩ := DataW.trod_struct hs hf
    obtain ⟨o0, k0⟩ := hone_of hone 0 f0 rfl
    obtain ⟨o1, k1⟩ := hone_of hone 1 f1 rfl
    obtain ⟨o2, k2⟩ := hone_of hone 2 f2 rfl
    obtain ⟨o3, k3⟩ := hone_of hone 3 f3 rfl
    obtain ⟨o4, k4⟩ := hone_of hone 4 f4 rfl
    obtain ⟨o5, k5⟩ := hone_of hone 5 f5 rfl
    obtain ⟨o6, k6⟩ := hone_of hone 6 f6 rfl
    match xs, hlen with
    | [y0, y1, y2, y3, y4, y5, y6], _ =>
      simp only [Prod.mk.injEq] at hx
      exact ⟨c0, c1, c2, c3, c4, c5, c6, y0, y1, y2, y3, y4, y5, y6, n, rfl, by simpa using hx.1, trivial, by simpa [Value.cells, o0, k0] using hg 0 f0 rfl, by simpa [Value.cells, o1, k1] using hg 1 f1 rfl, by simpa [Value.cells, o2, k2] using hg 2 f2 rfl, by simpa [Value.cells, o3, k3] using hg 3 f3 rfl, by simpa [Value.cells, o4, k4] using hg 4 f4 rfl, by simpa [Value.cells, o5, k5] using hg 5 f5 rfl, by simpa [Value.cells, o6, k6] using hg 6 f6 rfl⟩
end
theorem s8 {w : World} {X Y : Nat} {a b c d o0 o1 o2 o3 o4 o5 o6 : Value} {T U : TypeId} (hx : Blk w X [a, b, c, d] T) (ho : Blk w Y [o0, o1, o2, o3, o4, o5, o6] U) : w.cell? ⟨X, 3, none⟩ = some d ∧ w.cell? ⟨Y, 0, none⟩ = some o0 ∧ w.cell? ⟨Y, 1, none⟩ = some o1 ∧ w.cell? ⟨Y, 2, none⟩ = some o2 ∧ w.cell? ⟨Y, 3, none⟩ = some o3 ∧ w.cell? ⟨Y, 4, none⟩ = some o4 ∧ w.cell? ⟨Y, 5, none⟩ = some o5 ∧ w.cell? ⟨Y, 6, none⟩ = some o6 :=
  ⟨hx.cell (i := 3) rfl, ho.cell (i := 0) rfl, ho.cell (i := 1) rfl, ho.cell (i := 2) rfl, ho.cell (i := 3) rfl, ho.cell (i := 4) rfl, ho.cell (i := 5) rfl, ho.cell (i := 6) rfl⟩
set_option maxRecDepth 20000 in
set_option maxHeartbeats 16000000 in

theorem walk (a0_Name : ByteArray) (a0_Deadline : Int) (a0_Jumps : Int) (a0_Ops : Option Addr) (len0_Ops cap0_Ops : Nat) (a1_Kind : Int) (a1_Text : ByteArray) (a1_N : Int) (a1_To : Int) (a1_Arms : Option Addr) (len1_Arms cap1_Arms : Nat) (a1_OnTimeout : Int) (a1_OnEof : Int) (w : World) (w0_Name : a0_Name.size ≤ maxLen) (w0_Deadline : (Lit.int .i64 a0_Deadline).wf = true) (w0_Jumps : (Lit.int .i64 a0_Jumps).wf = true) (w0_Ops : IsAny Try.prog [3, 9, 2, 3, 25, 3, 3] w a0_Ops len0_Ops cap0_Ops) (w1_Kind : (Lit.int .i64 a1_Kind).wf = true) (w1_Text : a1_Text.size ≤ maxLen) (w1_N : (Lit.int .i64 a1_N).wf = true) (w1_To : (Lit.int .i64 a1_To).wf = true) (w1_Arms : IsMix Try.prog [9, 3] w a1_Arms len1_Arms cap1_Arms) (w1_OnTimeout : (Lit.int .i64 a1_OnTimeout).wf = true) (w1_OnEof : (Lit.int .i64 a1_OnEof).wf = true) :
    Calls Try.prog 5 #[.agg #[.string a0_Name, .int .i64 a0_Deadline, .int .i64 a0_Jumps, .slice a0_Ops len0_Ops cap0_Ops], .agg #[.int .i64 a1_Kind, .string a1_Text, .int .i64 a1_N, .int .i64 a1_To, .slice a1_Arms len1_Arms cap1_Arms, .int .i64 a1_OnTimeout, .int .i64 a1_OnEof]] w fun e w' => e = .returned (.bool true) ∧ Below w.heap.size w w' := by
  obtain ⟨L0, hL0, hO0⟩ := ol_in w0_Ops
  obtain ⟨ar, har, hA0⟩ := al_mix w1_Arms
  have hn0 : len0_Ops ≤ maxLen := Nat.le_trans w0_Ops.1 w0_Ops.2.1
  have hal0 : len1_Arms ≤ maxLen := Nat.le_trans w1_Arms.1 w1_Arms.2.1
  obtain ⟨nm, hnm⟩ : ∃ t, cutT a0_Name 20 = t := ⟨_, rfl⟩
  obtain ⟨L1, hL1⟩ : ∃ L, Pg.cutP 10 L0 = L := ⟨_, rfl⟩
  obtain ⟨m, hm⟩ : ∃ m, L1.length = m := ⟨_, rfl⟩
  have hm10 : m ≤ 10 := by rw [← hm, ← hL1, cutP_len]; omega
  have hnm20 : nm.size ≤ 20 := by rw [← hnm]; exact cutT_le _ _
  have hmx : m ≤ maxLen := by unfold maxLen; omega
  have hnmx : nm.size ≤ maxLen := by unfold maxLen; omega
  obtain ⟨tx2, htx2⟩ : ∃ t, cutT a1_Text 300 = t := ⟨_, rfl⟩
  obtain ⟨ar2, har2⟩ : ∃ t, Pg.cutA ar = t := ⟨_, rfl⟩
  obtain ⟨m2, hm2⟩ : ∃ t, ar2.length = t := ⟨_, rfl⟩
  obtain ⟨ii, e, hw⟩ : ∃ i e, Pg.wrong nm a0_Deadline a0_Jumps L1 = (i, e) := ⟨_, _, rfl⟩
  have HP : Hid (L0.length = len0_Ops ∧ OL w a0_Ops L0 ∧ cutT a0_Name 20 = nm ∧ Pg.cutP 10 L0 = L1 ∧ L1.length = m ∧ cutT nm 20 = nm ∧ Pg.cutP 10 L1 = L1 ∧ ∀ o ∈ L1, Pg.okO o) := Lib.hid ⟨hL0, hO0, hnm, hL1, hm, cutT_id nm 20 hnm20, by rw [← hL1]; exact cutP_self 10 L0, by rw [← hL1]; exact cutP_ok⟩
  have HO : Hid (ar.length = len1_Arms ∧ AL w a1_Arms ar ∧ cutT a1_Text 300 = tx2 ∧ Pg.cutA ar = ar2 ∧ ar2.length = m2 ∧ Pg.okO ⟨a1_Kind, tx2, a1_N, a1_To, ar2, a1_OnTimeout, a1_OnEof⟩) := Lib.hid ⟨har, hA0, htx2, har2, hm2, by
    have := cutO_ok ⟨a1_Kind, a1_Text, a1_N, a1_To, ar, a1_OnTimeout, a1_OnEof⟩
    unfold Pg.cutO at this
    rw [htx2, har2] at this
    exact this⟩
  have HW := Lib.hid hw
  have H0 := Lib.hid (QS.new (w := w) #[.string a0_Name, .int .i64 a0_Deadline, .int .i64 a0_Jumps, .slice a0_Ops len0_Ops cap0_Ops] #[.int .i64 a1_Kind, .string a1_Text, .int .i64 a1_N, .int .i64 a1_To, .slice a1_Arms len1_Arms cap1_Arms, .int .i64 a1_OnTimeout, .int .i64 a1_OnEof])
  clear hL0 hO0 har hA0 hnm hL1 hm htx2 har2 hm2 hw hnm20
  go_enter Try.func5, Try.ntmps5
  go_upto_region 1 with fail
  revert H0
  generalize ((w.alloc (.cells #[.string a0_Name, .int .i64 a0_Deadline, .int .i64 a0_Jumps, .slice a0_Ops len0_Ops cap0_Ops] 24)).alloc (.cells #[.int .i64 a1_Kind, .string a1_Text, .int .i64 a1_N, .int .i64 a1_To, .slice a1_Arms len1_Arms cap1_Arms, .int .i64 a1_OnTimeout, .int .i64 a1_OnEof] 27)) = W0
  intro H0
  have c0 := H0.out.1.cell (i := 0) rfl
  have c1 := H0.out.1.cell (i := 1) rfl
  have c2 := H0.out.1.cell (i := 2) rfl
  have c3 := H0.out.1.cell (i := 3) rfl
  go_upto_region 2 with (first
    | (go_at_call 8; refine (few13 a0_Name a0_Deadline a0_Jumps a0_Ops len0_Ops cap0_Ops L0 HP.out.1 hn0 w0_Name 10 (by omega) nm HP.out.2.2.1 L1 HP.out.2.2.2.1 m HP.out.2.2.2.2.1 10 rfl _ (HP.out.2.1.below H0.out.2.2)).mono ?_; rintro r W1 ⟨g1, k1, T1, rfl, q1, q2, q3⟩; have HC : Hid (QS w W1 [.string a0_Name, .int .i64 a0_Deadline, .int .i64 a0_Jumps, .slice a0_Ops len0_Ops cap0_Ops] [.int .i64 a1_Kind, .string a1_Text, .int .i64 a1_N, .int .i64 a1_To, .slice a1_Arms len1_Arms cap1_Arms, .int .i64 a1_OnTimeout, .int .i64 a1_OnEof] g1 k1 T1) := Lib.hid ⟨H0.out.1.below q3 H0.out.1.lt, H0.out.2.1.below q3 H0.out.2.1.lt, H0.out.2.2.trans (q3.mono H0.out.2.2.size), q2.mono H0.out.2.1.lt⟩; have HT1 := Lib.hid q1; clear q1 q2 q3 c0 c1 c2 c3; have c0 := HC.out.1.cell (i := 0) rfl; have c1 := HC.out.1.cell (i := 1) rfl; have c2 := HC.out.1.cell (i := 2) rfl; have c3 := HC.out.1.cell (i := 3) rfl; have f0 := HC.out.1.free 0; have f1 := HC.out.1.free 1; have f2 := HC.out.1.free 2; have f3 := HC.out.1.free 3)
    | fail)
  have HD : Hid (QS w ((((W1.setCell ⟨w.heap.size, 0, none⟩ (.string nm)).setCell ⟨w.heap.size, 1, none⟩ (.int .i64 a0_Deadline)).setCell ⟨w.heap.size, 2, none⟩ (.int .i64 a0_Jumps)).setCell ⟨w.heap.size, 3, none⟩ (.slice (some ⟨g1, 0, none⟩) m k1)) [.string nm, .int .i64 a0_Deadline, .int .i64 a0_Jumps, .slice (some ⟨g1, 0, none⟩) m k1] [.int .i64 a1_Kind, .string a1_Text, .int .i64 a1_N, .int .i64 a1_To, .slice a1_Arms len1_Arms cap1_Arms, .int .i64 a1_OnTimeout, .int .i64 a1_OnEof] g1 k1 T1) := Lib.hid ((((HC.out.setP 0 (.string nm)).setP 1 (.int .i64 a0_Deadline)).setP 2 (.int .i64 a0_Jumps)).setP 3 (.slice (some ⟨g1, 0, none⟩) m k1))
  clear c0 c1 c2 c3 f0 f1 f2 f3 HC H0
  revert HD
  generalize ((((W1.setCell ⟨w.heap.size, 0, none⟩ (.string nm)).setCell ⟨w.heap.size, 1, none⟩ (.int .i64 a0_Deadline)).setCell ⟨w.heap.size, 2, none⟩ (.int .i64 a0_Jumps)).setCell ⟨w.heap.size, 3, none⟩ (.slice (some ⟨g1, 0, none⟩) m k1)) = W2
  intro HD
  have c0 := HD.out.1.cell (i := 0) rfl
  have c1 := HD.out.1.cell (i := 1) rfl
  have c2 := HD.out.1.cell (i := 2) rfl
  have c3 := HD.out.1.cell (i := 3) rfl
  go_upto_region 3 with (first
    | (go_at_call 8; refine (few13 nm a0_Deadline a0_Jumps (some ⟨g1, 0, none⟩) m k1 L1 HP.out.2.2.2.2.1 hmx hnmx 10 (by omega) nm HP.out.2.2.2.2.2.1 L1 HP.out.2.2.2.2.2.2.1 m HP.out.2.2.2.2.1 10 rfl _ (HD.out.2.2.2.ol2 HT1.out HP.out.2.2.2.2.2.2.2)).mono ?_; rintro r W3 ⟨g2, k2, T2, rfl, q1, q2, q3⟩; have HE := Lib.hid (And.intro (HD.out.below q3) (q2.ol2 q1 HP.out.2.2.2.2.2.2.2)); clear q1 q2 q3)
    | (go_at_call 6; refine (pg_wrong nm a0_Deadline a0_Jumps _ m k2 L1 HP.out.2.2.2.2.1 hmx hnmx ii e HW.out _ HE.out.2).mono ?_; rintro r W4 ⟨rfl, hb1⟩; have HF := Lib.hid (HE.out.1.below hb1); clear hb1 c0 c1 c2 c3 HE HD; have c0 := HF.out.1.cell (i := 0) rfl; have c1 := HF.out.1.cell (i := 1) rfl; have c2 := HF.out.1.cell (i := 2) rfl; have c3 := HF.out.1.cell (i := 3) rfl)
    | fail)
  by_cases he0 : e = 0
  · subst he0
    go_wp2_with (first
      | (go_at_call 7; refine (lives13 _).mono ?_; rintro r W9 ⟨rfl, hb1⟩; have HZ := Lib.hid (HF.out.2.2.1.trans (hb1.mono HF.out.2.2.1.size)); clear hb1)
      | fail)
    go_ret
    exact ⟨rfl, HZ.out⟩
  · have e1 : ((e : Int) == 0) = false := by simpa using (show ¬ (e : Int) = 0 by omega)
    by_cases hi0 : ii < 0
    · go_wp2_with (first
        | (go_at_call 7; refine (lives13 _).mono ?_; rintro r W9 ⟨rfl, hb1⟩; have HZ := Lib.hid (HF.out.2.2.1.trans (hb1.mono HF.out.2.2.1.size)); clear hb1)
        | fail)
      go_ret
      exact ⟨rfl, HZ.out⟩
    · obtain ⟨q, rfl⟩ : ∃ q : Nat, ii = (q : Int) := ⟨ii.toNat, by omega⟩
      have hqm : q < m := by
        have h1 := (wrong_op HW.out he0).1
        have h2 := wOps_lt _ _ _ _ _ h1 he0
        rw [HP.out.2.2.2.2.1] at h2
        omega
      obtain ⟨Q, hQ⟩ : ∃ Q, q + 1 = Q := ⟨_, rfl⟩
      have y4 : (q : Int) + 1 = (Q : Int) := by omega
      have y5 : IntKind.i64.wrap (Q : Int) = (Q : Int) := IntWalk.i64_in _ (by omega)
      have hQ10 : Q ≤ 10 := by omega
      have HQ := Lib.hid hQ
      clear hQ
      by_cases hQm : m ≤ Q
      · have y6 : (m : Int) ≤ (Q : Int) := by omega
        go_wp2_with (first
          | (go_at_call 7; refine (lives13 _).mono ?_; rintro r W9 ⟨rfl, hb1⟩; have HZ := Lib.hid (HF.out.2.2.1.trans (hb1.mono HF.out.2.2.1.size)); clear hb1)
          | fail)
        go_ret
        exact ⟨rfl, HZ.out⟩
      · have y6 : ¬ (m : Int) ≤ (Q : Int) := by omega
        have y7 : (Q : Int) < (m : Int) := by omega
        have y8 : (0 : Int) ≤ (Q : Int) := by omega
        go_upto_region 6 with (first
          | (go_at_call 8; refine (few13 nm a0_Deadline a0_Jumps (some ⟨g1, 0, none⟩) m k1 L1 HP.out.2.2.2.2.1 hmx hnmx 10 (by omega) nm HP.out.2.2.2.2.2.1 L1 HP.out.2.2.2.2.2.2.1 m HP.out.2.2.2.2.1 10 rfl _ (HF.out.2.2.2.ol2 HT1.out HP.out.2.2.2.2.2.2.2)).mono ?_; rintro r W5 ⟨g3, k3, T3, rfl, q1, q2, q3⟩; have HG : Hid (QS w W5 [.string nm, .int .i64 a0_Deadline, .int .i64 a0_Jumps, .slice (some ⟨g1, 0, none⟩) m k1] [.int .i64 a1_Kind, .string a1_Text, .int .i64 a1_N, .int .i64 a1_To, .slice a1_Arms len1_Arms cap1_Arms, .int .i64 a1_OnTimeout, .int .i64 a1_OnEof] g1 k1 T1 ∧ PR W5 W4.heap.size g3 k3 T3 ∧ T3.map (·.1) = L1 ∧ w.heap.size + 2 ≤ W4.heap.size ∧ W4.heap.size ≤ W5.heap.size) := Lib.hid ⟨HF.out.below q3, q2, q1, HF.out.2.1.lt, q3.size⟩; clear q1 q2 q3)
          | fail)
        clear c0 c1 c2 c3
        have HJ : Hid ((QS w (W5.alloc (.cells #[.string nm, .int .i64 a0_Deadline, .int .i64 a0_Jumps, .slice (some ⟨g3, 0, none⟩) m k3] 24)) [.string nm, .int .i64 a0_Deadline, .int .i64 a0_Jumps, .slice (some ⟨g1, 0, none⟩) m k1] [.int .i64 a1_Kind, .string a1_Text, .int .i64 a1_N, .int .i64 a1_To, .slice a1_Arms len1_Arms cap1_Arms, .int .i64 a1_OnTimeout, .int .i64 a1_OnEof] g1 k1 T1 ∧ PR (W5.alloc (.cells #[.string nm, .int .i64 a0_Deadline, .int .i64 a0_Jumps, .slice (some ⟨g3, 0, none⟩) m k3] 24)) W4.heap.size g3 k3 T3 ∧ Blk (W5.alloc (.cells #[.string nm, .int .i64 a0_Deadline, .int .i64 a0_Jumps, .slice (some ⟨g3, 0, none⟩) m k3] 24)) W5.heap.size [.string nm, .int .i64 a0_Deadline, .int .i64 a0_Jumps, .slice (some ⟨g3, 0, none⟩) m k3] 24) ∧ T3.map (·.1) = L1 ∧ w.heap.size + 2 ≤ W4.heap.size ∧ W4.heap.size ≤ (W5.alloc (.cells #[.string nm, .int .i64 a0_Deadline, .int .i64 a0_Jumps, .slice (some ⟨g3, 0, none⟩) m k3] 24)).heap.size) := Lib.hid ⟨⟨HG.out.1.below ((Below.refl _ _).alloc (Nat.le_refl _) _), HG.out.2.1.below ((Below.refl _ _).alloc (Nat.le_refl _) _), Blk.newA _ _ _⟩, HG.out.2.2.1, HG.out.2.2.2.1, by have := HG.out.2.2.2.2; simp; omega⟩
        clear HG HF
        revert HJ
        generalize (W5.alloc (.cells #[.string nm, .int .i64 a0_Deadline, .int .i64 a0_Jumps, .slice (some ⟨g3, 0, none⟩) m k3] 24)) = V5
        generalize W5.heap.size = X
        generalize W4.heap.size = B4
        intro HJ
        have s0 := s8 (w := V5.drew) HJ.out.1.2.2.drew HJ.out.1.1.2.1.drew
        have hT3l : T3.length = m := by
          have := congrArg List.length HJ.out.2.1
          rw [List.length_map, HP.out.2.2.2.2.1] at this
          exact this
        obtain ⟨t3, ht3⟩ : ∃ t, T3[Q]? = some t := ⟨_, List.getElem?_eq_getElem (by omega)⟩
        have HT3 : Hid (T3.length = m ∧ T3[Q]? = some t3 ∧ AL V5.drew a1_Arms ar) := Lib.hid ⟨hT3l, ht3, HO.out.2.1.below (HJ.out.1.1.2.2.1.drew)⟩
        clear hT3l ht3
        have xl := HJ.out.1.2.2.lt
        have nx1 : ¬ X = w.heap.size + 1 := fun h => by
          have h1 := HJ.out.1.2.2
          rw [h] at h1
          exact absurd (blk_tp h1 HJ.out.1.1.2.1) (by decide)
        go_region_held3 (fun w' => w'.cell? ⟨X, 3, none⟩ = some (.slice (some ⟨g3, 0, none⟩) m k3) ∧ w'.cell? ⟨w.heap.size + 1, 0, none⟩ = some (.int .i64 a1_Kind) ∧ w'.cell? ⟨w.heap.size + 1, 1, none⟩ = some (.string a1_Text) ∧ w'.cell? ⟨w.heap.size + 1, 2, none⟩ = some (.int .i64 a1_N) ∧ w'.cell? ⟨w.heap.size + 1, 3, none⟩ = some (.int .i64 a1_To) ∧ w'.cell? ⟨w.heap.size + 1, 4, none⟩ = some (.slice a1_Arms len1_Arms cap1_Arms) ∧ w'.cell? ⟨w.heap.size + 1, 5, none⟩ = some (.int .i64 a1_OnTimeout) ∧ w'.cell? ⟨w.heap.size + 1, 6, none⟩ = some (.int .i64 a1_OnEof)) (first | with_reducible exact s0 | with_reducible exact s6 | with_reducible exact s7) (first
          | (go_at_call 14
             refine (op13 a1_Kind a1_Text a1_N a1_To a1_Arms len1_Arms cap1_Arms a1_OnTimeout a1_OnEof ar HO.out.1 hal0 w1_Text tx2 HO.out.2.2.1 ar2 HO.out.2.2.2.1 m2 HO.out.2.2.2.2.1 _ HT3.out.2.2).mono ?_
             rintro r W6 ⟨g5, c5, rfl, q1, q2, q3⟩
             have HK : Hid ((QS w W6 [.string nm, .int .i64 a0_Deadline, .int .i64 a0_Jumps, .slice (some ⟨g1, 0, none⟩) m k1] [.int .i64 a1_Kind, .string a1_Text, .int .i64 a1_N, .int .i64 a1_To, .slice a1_Arms len1_Arms cap1_Arms, .int .i64 a1_OnTimeout, .int .i64 a1_OnEof] g1 k1 T1 ∧ PR W6 B4 g3 k3 T3 ∧ Blk W6 X [.string nm, .int .i64 a0_Deadline, .int .i64 a0_Jumps, .slice (some ⟨g3, 0, none⟩) m k3] 24) ∧ Rn W6 g5 c5 2 (acs ar2) 38 ∧ B4 ≤ g5) := Lib.hid ⟨⟨(HJ.out.1.1.below (Below.refl _ _).drew).below q3, (HJ.out.1.2.1.below (Below.refl _ _).drew).below q3, HJ.out.1.2.2.drew.below q3 HJ.out.1.2.2.drew.lt⟩, q1, Nat.le_trans HJ.out.2.2.2 q2⟩
             clear q1 q2 q3
             have s6 := s8 HK.out.1.2.2 HK.out.1.1.2.1
             have HS := Lib.hid (HK.out.1.2.1.store Q (by rw [HT3.out.1]; omega) ⟨a1_Kind, tx2, a1_N, a1_To, ar2, a1_OnTimeout, a1_OnEof⟩ g5 c5 HK.out.2.2 HK.out.2.1)
             have HR : Hid (OL (((((((W6.setCell ⟨g3, Q * 7, none⟩ (.int .i64 a1_Kind)).setCell ⟨g3, Q * 7 + 1, none⟩ (.string tx2)).setCell ⟨g3, Q * 7 + 2, none⟩ (.int .i64 a1_N)).setCell ⟨g3, Q * 7 + 3, none⟩ (.int .i64 a1_To)).setCell ⟨g3, Q * 7 + 4, none⟩ (.slice (some ⟨g5, 0, none⟩) m2 c5)).setCell ⟨g3, Q * 7 + 5, none⟩ (.int .i64 a1_OnTimeout)).setCell ⟨g3, Q * 7 + 6, none⟩ (.int .i64 a1_OnEof)) (some ⟨g3, 0, none⟩) (L1.set Q ⟨a1_Kind, tx2, a1_N, a1_To, ar2, a1_OnTimeout, a1_OnEof⟩) ∧ Blk (((((((W6.setCell ⟨g3, Q * 7, none⟩ (.int .i64 a1_Kind)).setCell ⟨g3, Q * 7 + 1, none⟩ (.string tx2)).setCell ⟨g3, Q * 7 + 2, none⟩ (.int .i64 a1_N)).setCell ⟨g3, Q * 7 + 3, none⟩ (.int .i64 a1_To)).setCell ⟨g3, Q * 7 + 4, none⟩ (.slice (some ⟨g5, 0, none⟩) m2 c5)).setCell ⟨g3, Q * 7 + 5, none⟩ (.int .i64 a1_OnTimeout)).setCell ⟨g3, Q * 7 + 6, none⟩ (.int .i64 a1_OnEof)) X [.string nm, .int .i64 a0_Deadline, .int .i64 a0_Jumps, .slice (some ⟨g3, 0, none⟩) m k3] 24 ∧ Below w.heap.size w (((((((W6.setCell ⟨g3, Q * 7, none⟩ (.int .i64 a1_Kind)).setCell ⟨g3, Q * 7 + 1, none⟩ (.string tx2)).setCell ⟨g3, Q * 7 + 2, none⟩ (.int .i64 a1_N)).setCell ⟨g3, Q * 7 + 3, none⟩ (.int .i64 a1_To)).setCell ⟨g3, Q * 7 + 4, none⟩ (.slice (some ⟨g5, 0, none⟩) m2 c5)).setCell ⟨g3, Q * 7 + 5, none⟩ (.int .i64 a1_OnTimeout)).setCell ⟨g3, Q * 7 + 6, none⟩ (.int .i64 a1_OnEof)) ∧ Blk (((((((W6.setCell ⟨g3, Q * 7, none⟩ (.int .i64 a1_Kind)).setCell ⟨g3, Q * 7 + 1, none⟩ (.string tx2)).setCell ⟨g3, Q * 7 + 2, none⟩ (.int .i64 a1_N)).setCell ⟨g3, Q * 7 + 3, none⟩ (.int .i64 a1_To)).setCell ⟨g3, Q * 7 + 4, none⟩ (.slice (some ⟨g5, 0, none⟩) m2 c5)).setCell ⟨g3, Q * 7 + 5, none⟩ (.int .i64 a1_OnTimeout)).setCell ⟨g3, Q * 7 + 6, none⟩ (.int .i64 a1_OnEof)) (w.heap.size + 1) [.int .i64 a1_Kind, .string a1_Text, .int .i64 a1_N, .int .i64 a1_To, .slice a1_Arms len1_Arms cap1_Arms, .int .i64 a1_OnTimeout, .int .i64 a1_OnEof] 27) := Lib.hid (by
               have h := HS.out
               dsimp only at h
               rw [HO.out.2.2.2.2.1] at h
               have hg3 := HK.out.1.2.1.2.1
               have hB := HJ.out.2.2.1
               refine ⟨h.1.ol2 (by rw [map_set1, HJ.out.2.1]) (fun o ho => ?_), HK.out.1.2.2.chg h.2 (fun hx => ?_), h.2.onto HK.out.1.1.2.2.1 HK.out.1.1.2.2.1.size (by simp; omega), HK.out.1.1.2.1.chg h.2 (by simp; omega)⟩
               · rcases List.mem_or_eq_of_mem_set ho with ho | ho
                 · exact HP.out.2.2.2.2.2.2.2 o ho
                 · rw [ho]; exact HO.out.2.2.2.2.2
               · simp at hx
                 have h1 := HK.out.1.2.2
                 obtain ⟨_, _, _, h2⟩ := HK.out.1.2.1.1
                 rw [hx] at h1
                 exact absurd (blk_tp h1 h2) (by decide))
             have s7 := s8 HR.out.2.1 HR.out.2.2.2
             clear HS
             have z0 : W6.cell? ⟨g3, Q * 7, none⟩ = some (.int .i64 t3.1.k) := HK.out.1.2.1.1.cell ((pcs_at T3 Q 0 t3 HT3.out.2.1 (by decide)).trans rfl)
             have zf0 := HK.out.1.2.1.1.free (Q * 7)
             have z1 : W6.cell? ⟨g3, Q * 7 + 1, none⟩ = some (.string t3.1.tx) := HK.out.1.2.1.1.cell ((pcs_at T3 Q 1 t3 HT3.out.2.1 (by decide)).trans rfl)
             have zf1 := HK.out.1.2.1.1.free (Q * 7 + 1)
             have z2 : W6.cell? ⟨g3, Q * 7 + 2, none⟩ = some (.int .i64 t3.1.n) := HK.out.1.2.1.1.cell ((pcs_at T3 Q 2 t3 HT3.out.2.1 (by decide)).trans rfl)
             have zf2 := HK.out.1.2.1.1.free (Q * 7 + 2)
             have z3 : W6.cell? ⟨g3, Q * 7 + 3, none⟩ = some (.int .i64 t3.1.to1) := HK.out.1.2.1.1.cell ((pcs_at T3 Q 3 t3 HT3.out.2.1 (by decide)).trans rfl)
             have zf3 := HK.out.1.2.1.1.free (Q * 7 + 3)
             have z4 : W6.cell? ⟨g3, Q * 7 + 4, none⟩ = some (.slice t3.2.1 t3.1.ar.length t3.2.2) := HK.out.1.2.1.1.cell ((pcs_at T3 Q 4 t3 HT3.out.2.1 (by decide)).trans rfl)
             have zf4 := HK.out.1.2.1.1.free (Q * 7 + 4)
             have z5 : W6.cell? ⟨g3, Q * 7 + 5, none⟩ = some (.int .i64 t3.1.ot) := HK.out.1.2.1.1.cell ((pcs_at T3 Q 5 t3 HT3.out.2.1 (by decide)).trans rfl)
             have zf5 := HK.out.1.2.1.1.free (Q * 7 + 5)
             have z6 : W6.cell? ⟨g3, Q * 7 + 6, none⟩ = some (.int .i64 t3.1.oe) := HK.out.1.2.1.1.cell ((pcs_at T3 Q 6 t3 HT3.out.2.1 (by decide)).trans rfl)
             have zf6 := HK.out.1.2.1.1.free (Q * 7 + 6)))
        all_goals
          clear s0 s6 s7 z0 z1 z2 z3 z4 z5 z6 zf0 zf1 zf2 zf3 zf4 zf5 zf6
          revert HR
          generalize (((((((W6.setCell ⟨g3, Q * 7, none⟩ (.int .i64 a1_Kind)).setCell ⟨g3, Q * 7 + 1, none⟩ (.string tx2)).setCell ⟨g3, Q * 7 + 2, none⟩ (.int .i64 a1_N)).setCell ⟨g3, Q * 7 + 3, none⟩ (.int .i64 a1_To)).setCell ⟨g3, Q * 7 + 4, none⟩ (.slice (some ⟨g5, 0, none⟩) m2 c5)).setCell ⟨g3, Q * 7 + 5, none⟩ (.int .i64 a1_OnTimeout)).setCell ⟨g3, Q * 7 + 6, none⟩ (.int .i64 a1_OnEof)) = W7
          intro HR
          have r0 := HR.out.2.1.cell (i := 0) rfl
          have r1 := HR.out.2.1.cell (i := 1) rfl
          have r2 := HR.out.2.1.cell (i := 2) rfl
          have r3 := HR.out.2.1.cell (i := 3) rfl
          have HWQ : Hid (Pg.wrong nm a0_Deadline a0_Jumps (L1.set Q ⟨a1_Kind, tx2, a1_N, a1_To, ar2, a1_OnTimeout, a1_OnEof⟩) = ((q : Int), e)) := Lib.hid (by rw [← HQ.out]; exact wrong_set HW.out he0 _)
          go_wp2_with (first
            | (go_at_call 6; refine (pg_wrong nm a0_Deadline a0_Jumps _ m k3 (L1.set Q ⟨a1_Kind, tx2, a1_N, a1_To, ar2, a1_OnTimeout, a1_OnEof⟩) (by rw [List.length_set]; exact HP.out.2.2.2.2.1) hmx hnmx (q : Int) e HWQ.out _ HR.out.1).mono ?_; rintro r W8 ⟨rfl, hb1⟩; have HX := Lib.hid (HR.out.2.2.1.trans (hb1.mono HR.out.2.2.1.size)); clear hb1)
            | (go_at_call 7; refine (lives13 _).mono ?_; rintro r W9 ⟨rfl, hb1⟩; have HZ := Lib.hid (HX.out.trans (hb1.mono HX.out.size)); clear hb1)
            | fail)
          go_ret
          exact ⟨rfl, HZ.out⟩

set_option maxRecDepth 100000 in
theorem lifted (os : Os) (started : os.Started) (H : Type) (enc : TypeId × Value → H) :
    ReturnsInHanded {} Try.checked os 5 .any (Rows.progFirstSpec.pre6 enc Try.prog Try.f5 Rows.progFirstRow.domain false) (Rows.progFirstSpec.post enc Try.prog Try.f5 false true false false) := by
  refine returnsInHanded_of_change (C := Try.checked) ownKn started (by kernel_rfl) Try.func5
    (ChangeSpec.witness6 (enc := enc) (C := Try.checked) false ⟨#[], #[.agg #[.string ByteArray.empty, .int .i64 0, .int .i64 0, .slice none 0 0], .agg #[.int .i64 0, .string ByteArray.empty, .int .i64 0, .int .i64 0, .slice none 0 0, .int .i64 0, .int .i64 0]], []⟩ 8 (by kernel_rfl) (by kernel_rfl) (by kernel_rfl) (by kernel_rfl)) ?_
  intro W base args ds gs before hval0 hW hcnd _
  have hval : ∀ (j : Nat) t v, Try.f5.params[j]? = some t → args[j]? = some v → Value.okWide Try.prog W .any base t v := hval0
  have hW' := hW
  obtain ⟨p, q, hA0, hV, rfl, hfz, hnd⟩ := hW
  have hA : DataW.TrodAll enc Try.prog W 0 (fun _ => true) true Try.f5.params.toList args.toList ds p := hA0
  rw [Try.params5] at hA hval
  obtain ⟨v0, vs0, d0, ds0, p0, q0, hargs, rfl, rfl, h0, r0⟩ := trodAll_cons hA
  obtain ⟨v1, vs1, d1, ds1, p1, q1, rfl, rfl, rfl, h1, r1⟩ := trodAll_cons r0
  obtain ⟨rfl, rfl, rfl⟩ := trodAll_nil r1
  obtain rfl : args = #[v0, v1] := by cases args; simp_all
  obtain ⟨rfl, rfl⟩ := trodVars_none hV
  have k0 := h0
  have lt0 : ∀ x ∈ p0, x.block < W.heap.size := by obtain ⟨m, hm⟩ := k0; exact DataW.trod_lt m _ _ _ hm
  obtain ⟨u0_0, u0_1, u0_2, u0_3, y0_0, y0_1, y0_2, y0_3, nn0, rfl, _, _, g0_0, g0_1, g0_2, g0_3⟩ := open_flat4 Try.underlying24 (by kernel_rfl) (by kernel_rfl) (hval 0 24 v0 rfl rfl) h0
  obtain ⟨a0_Name, rfl, w0_Name⟩ := fld_string Try.underlying9 g0_0
  obtain ⟨a0_Deadline, rfl, w0_Deadline⟩ := fld_int Try.underlying2 g0_1
  obtain ⟨a0_Jumps, rfl, w0_Jumps⟩ := fld_int Try.underlying3 g0_2
  obtain ⟨a0_Ops, len0_Ops, cap0_Ops, rfl, w0_Ops⟩ := fld_any [3, 9, 2, 3, 25, 3, 3] Try.underlying22 Try.underlying27 (by kernel_rfl) (by kernel_rfl) rfl (by decide) g0_3
  have k1 := h1
  have lt1 : ∀ x ∈ p1, x.block < W.heap.size := by obtain ⟨m, hm⟩ := k1; exact DataW.trod_lt m _ _ _ hm
  obtain ⟨u1_0, u1_1, u1_2, u1_3, u1_4, u1_5, u1_6, y1_0, y1_1, y1_2, y1_3, y1_4, y1_5, y1_6, nn1, rfl, _, _, g1_0, g1_1, g1_2, g1_3, g1_4, g1_5, g1_6⟩ := open_flat7 Try.underlying27 (by kernel_rfl) (by kernel_rfl) (hval 1 27 v1 rfl rfl) h1
  obtain ⟨a1_Kind, rfl, w1_Kind⟩ := fld_int Try.underlying3 g1_0
  obtain ⟨a1_Text, rfl, w1_Text⟩ := fld_string Try.underlying9 g1_1
  obtain ⟨a1_N, rfl, w1_N⟩ := fld_int Try.underlying2 g1_2
  obtain ⟨a1_To, rfl, w1_To⟩ := fld_int Try.underlying3 g1_3
  obtain ⟨a1_Arms, len1_Arms, cap1_Arms, rfl, w1_Arms⟩ := fld_mix [9, 3] Try.underlying25 Try.underlying38 (by kernel_rfl) (by kernel_rfl) rfl (by intro t ht; simp only [List.mem_cons, List.not_mem_nil, or_false] at ht; obtain rfl | rfl := ht; all_goals (first | exact Or.inl ⟨_, Try.underlying3⟩ | exact Or.inr (Or.inl Try.underlying9))) (by decide) g1_4
  obtain ⟨a1_OnTimeout, rfl, w1_OnTimeout⟩ := fld_int Try.underlying3 g1_5
  obtain ⟨a1_OnEof, rfl, w1_OnEof⟩ := fld_int Try.underlying3 g1_6
  clear hA0 hval0
  refine (walk a0_Name a0_Deadline a0_Jumps a0_Ops len0_Ops cap0_Ops a1_Kind a1_Text a1_N a1_To a1_Arms len1_Arms cap1_Arms a1_OnTimeout a1_OnEof W w0_Name w0_Deadline w0_Jumps w0_Ops w1_Kind w1_Text w1_N w1_To w1_Arms w1_OnTimeout w1_OnEof).mono fun e W' ⟨he, bel⟩ => ?_
  subst he
  exact ⟨_, rfl, _, _, _, [], _, [], hW', trodAll_mk1 (shut_bool Try.underlying4 _), (trodAll_cons_mk (Below.trod laidOut (by kernel_rfl) (of_decide_eq_true (by kernel_rfl)) k0 bel lt0) (trodAll_cons_mk (Below.trod laidOut (by kernel_rfl) (of_decide_eq_true (by kernel_rfl)) k1 bel lt1) trodAll_mk0)), rfl, bel.frame _, fun h => by cases h⟩

theorem over : Rows.progFirstRow.holds Try.pinned (OpenSpec.ofChange Rows.progFirstSpec) :=
  OpenClaim.holds_of_wide 5 Try.f5 rfl rfl rfl rfl rfl rfl rfl ⟨rfl, rfl, rfl, rfl, rfl⟩ rfl rfl rfl rfl rfl (by kernel_rfl) Try.func5 (by kernel_rfl)
    (of_decide_eq_true (by kernel_rfl)) (by unfold Func.isWrapper; first | (rw [if_pos (by decide +kernel)]; kernel_rfl) | (rw [if_neg (by decide +kernel)]; exact ⟨rfl, rfl⟩))
    (fun os started H enc _ => lifted os started H enc)

/-- The statement. -/
theorem proved : Rows.ProgFirstSaid := over
#print axioms proved
end Go.Proofs.Ytoniipmgkoogbaa.progFirst
