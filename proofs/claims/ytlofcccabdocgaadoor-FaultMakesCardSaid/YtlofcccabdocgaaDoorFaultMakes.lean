/- P16.1: for every place, every number of an error and every name (cut to 8 bytes): what is made of them, and of nothing. No condition. ! tab err -/
import Derived.Test.YtlofcccabdocgaaDoorOpen
import Derived.Test.YtlofcccabdocgaaDoorCards
import Derived.Test.YtlofcccabdocgaaDoorTie
import Derived.WalkKit
import Derived.Deep.DeepHandedRow
import Derived.Shelf.Vars
import Derived.Stop.LaidErr
import Derived.Lib.LaidTab
import Derived.LaidHandle
import Derived.ProofKit
import Derived.OpenShut
import Derived.Test.YtlofcccabdocgaaDoorFa15
import Derived.Test.YtlofcccabdocgaaDoorClass
import Derived.Deep.RegionHeld3
namespace Go.Proofs.YtlofcccabdocgaaDoor.faultMakes
open Go.Joins Go.ChangeShapes Go.WideShapes Go.ChangeAt Go.RowKit Go.Deep
open Go.ChangeMaps (open_string)
set_option linter.unusedSimpArgs false
set_option linter.unusedVariables false

section
variable {H : Type} {enc : TypeId × Value → H} {P : Program} {w : World} {base : Nat} {spare : Nat → Bool} {held : Bool}
theorem open_flat2 {r : Reach} {b0 : Nat} {t : TypeId} {f0 f1 : Field} {v : Value} {d : DataW H} {p : List MemPlace} (hs : P.underlying t = some (.struct #[f0, f1])) (hone : oneCellFields P #[f0, f1] = true) (hC : P.cellsOf t = 2)
    (hv : Value.okWide P w r b0 t v) (h : DataW.Trod enc P w base spare held t v d p) :
    ∃ (v0 v1 : Value) (y0 y1 : DataW H × List MemPlace) (n : Nat), v = .agg #[v0, v1] ∧ d = .agg [y0.1, y1.1] ∧ True ∧
      DataW.trod enc P w base spare held n f0.type [v0] = some y0 ∧ DataW.trod enc P w base spare held n f1.type [v1] = some y1 := by
  obtain ⟨cs, rfl, hsz⟩ := okWide_struct hs hv
  obtain ⟨l⟩ := cs
  match l, hsz.trans hC with
  | [c0, c1], _ =>
    obtain ⟨fuel, hf⟩ := h
    obtain ⟨xs, n, _, hx, _, hlen, hg⟩ := DataW.trod_struct hs hf
    obtain ⟨o0, k0⟩ := hone_of hone 0 f0 rfl
    obtain ⟨o1, k1⟩ := hone_of hone 1 f1 rfl
    match xs, hlen with
    | [y0, y1], _ =>
      simp only [Prod.mk.injEq] at hx
      exact ⟨c0, c1, y0, y1, n, rfl, by simpa using hx.1, trivial, by simpa [Value.cells, o0, k0] using hg 0 f0 rfl, by simpa [Value.cells, o1, k1] using hg 1 f1 rfl⟩
end
set_option maxRecDepth 100000 in
set_option maxHeartbeats 32000000 in

theorem walk (a0_Line : Int) (a0_Col : Int) (a1 : Int) (a2 : ByteArray) (w : World) (htab : Lib.TabIs Tryd.prog w "internal/strconv.uint64pow10" .u64 Lib.pow10Tab) (herr : w.cell? ⟨0, 0, none⟩ = some (.iface 92 (.agg #[.pointer (some ⟨4, 29, none⟩)]))) (w0_Line : (Lit.int .i64 a0_Line).wf = true) (w0_Col : (Lit.int .i64 a0_Col).wf = true) (w1 : (Lit.int .i64 a1).wf = true) (w2 : a2.size ≤ maxLen) :
    Calls Tryd.prog 6 #[.agg #[.int .i64 a0_Line, .int .i64 a0_Col], .int .i64 a1, .string a2] w fun e w' => e = .returned (.bool true) ∧ Below w.heap.size w w' := by
  have hb0 := bounds_i64 w0_Line
  have hb1 := bounds_i64 w0_Col
  have hb2 := bounds_i64 w1
  obtain ⟨nm, hnm⟩ : ∃ nm, cutE a2 8 = nm := ⟨_, rfl⟩
  have hn8 : nm.size ≤ 8 := by rw [← hnm]; exact cutE_le _ _
  obtain ⟨SA, hSA⟩ : ∃ S, Fa.txt [⟨true, a0_Line, a0_Col, ByteArray.empty⟩] a1 = S := ⟨_, rfl⟩
  obtain ⟨SI, hSI⟩ : ∃ S, Fa.txt [⟨false, 0, 0, nm⟩] a1 = S := ⟨_, rfl⟩
  obtain ⟨S12, hS12⟩ : ∃ S, Fa.txt [⟨false, 0, 0, nm⟩, ⟨true, a0_Line, a0_Col, ByteArray.empty⟩] a1 = S := ⟨_, rfl⟩
  obtain ⟨P1, hP1⟩ : ∃ P1, ({ data := #[105, 110, 32] } : ByteArray) ++ nm = P1 := ⟨_, rfl⟩
  obtain ⟨P2, hP2⟩ : ∃ P2, P1 ++ ({ data := #[58, 32] } : ByteArray) = P2 := ⟨_, rfl⟩
  have hP3 : P2 ++ SA = S12 := by rw [← hS12, fa_tx2, ← hSA, ← hP2, ← hP1]
  have hiz : Fa.i64 0 := by unfold Fa.i64; omega
  have HI : Hid (Fa.i64 a0_Line ∧ Fa.i64 a0_Col ∧ Fa.i64 a1) := Lib.hid ⟨by unfold Fa.i64; omega, by unfold Fa.i64; omega, by unfold Fa.i64; omega⟩
  have HNM : Hid (nm.size ≤ 100) := Lib.hid (by omega)
  have hoA := fa_one_ok (a := true) (l := a0_Line) (c := a0_Col) (n := ByteArray.empty) (by decide) HI.out.1 HI.out.2.1
  have hoI := fa_one_ok (a := false) (l := 0) (c := 0) HNM.out hiz hiz
  have hsa : SA.size ≤ 1000 := by rw [← hSA]; exact fa_txt_len (hoA.1 _ (List.mem_singleton.2 rfl)) (hoA.2 _ (List.mem_singleton.2 rfl)) HI.out.2.2
  have zp1 : P1.size = 3 + nm.size := by rw [← hP1, ByteArray.size_append]; rfl
  have zp2 : P2.size = P1.size + 2 := by rw [← hP2, ByteArray.size_append]; rfl
  have cc1 : ¬ (9223372036854775807 < 3 + nm.size) := by omega
  have cc2 : ¬ (9223372036854775807 < P1.size + 2) := by omega
  have cc3 : ¬ (9223372036854775807 < P2.size + SA.size) := by omega
  have HOK : Hid ((∀ x ∈ ([⟨true, a0_Line, a0_Col, ByteArray.empty⟩] : List Wp), x.n.size ≤ 100) ∧ (∀ x ∈ ([⟨false, 0, 0, nm⟩] : List Wp), x.n.size ≤ 100) ∧ ByteArray.empty.size ≤ maxLen ∧ nm.size ≤ maxLen ∧ Fa.i64 0) := Lib.hid ⟨hoA.2, hoI.2, by decide, by unfold maxLen; omega, hiz⟩
  have HO2 : Hid ((∀ x ∈ ([⟨false, 0, 0, nm⟩, ⟨true, a0_Line, a0_Col, ByteArray.empty⟩] : List Wp), x.ok) ∧ (∀ x ∈ ([⟨false, 0, 0, nm⟩, ⟨true, a0_Line, a0_Col, ByteArray.empty⟩] : List Wp), x.n.size ≤ 100) ∧ (∀ x ∈ ([⟨true, a0_Line, a0_Col, ByteArray.empty⟩] : List Wp), x.ok)) := Lib.hid ⟨by
    intro x hx
    rcases List.mem_cons.1 hx with rfl | hx
    · exact hoI.1 _ (List.mem_singleton.2 rfl)
    · exact hoA.1 x hx, by
    intro x hx
    rcases List.mem_cons.1 hx with rfl | hx
    · exact hoI.2 _ (List.mem_singleton.2 rfl)
    · exact hoA.2 x hx, hoA.1⟩
  have HS2 := Lib.hid (And.intro hSA (And.intro hSI hS12))
  have HZ : Hid ((∀ x ∈ ([⟨true, a0_Line, a0_Col, ({ data := #[] } : ByteArray)⟩] : List Wp), x.n.size ≤ 100) ∧ Fa.txt [⟨true, a0_Line, a0_Col, ({ data := #[] } : ByteArray)⟩] a1 = SA ∧ (({ data := #[] } : ByteArray)).size ≤ maxLen) := Lib.hid ⟨hoA.2, hSA, by decide⟩
  have HC := Lib.hid (And.intro w2 hnm)
  have HTB := Lib.hid (And.intro htab herr)
  have hz : 0 < w.heap.size := World.block_lt_of_cell? _ _ herr
  obtain ⟨X3, hX3⟩ : ∃ X3, w.heap.size = X3 := ⟨_, rfl⟩
  have H0 : Hid (Blk (w.alloc (.cells #[.int .i64 a0_Line, .int .i64 a0_Col] 33)) X3 [.int .i64 a0_Line, .int .i64 a0_Col] 33 ∧ Below w.heap.size w (w.alloc (.cells #[.int .i64 a0_Line, .int .i64 a0_Col] 33))) := Lib.hid ⟨by rw [← hX3]; exact Blk.newA _ _ _, (Below.refl _ _).alloc (Nat.le_refl _) _⟩
  clear htab herr hSA hSI hS12 w2 hnm hiz hoA hoI hsa zp1 zp2
  go_enter Tryd.func6, Tryd.ntmps6
  go_upto_region 1 with fail
  clear hX3
  revert H0
  generalize (w.alloc (.cells #[.int .i64 a0_Line, .int .i64 a0_Col] 33)) = W0
  intro H0
  go_upto_region 2 with (go_at_call 16; refine (fa_cut a2 nm 8 (by omega) HC.out.1 HC.out.2 8 rfl _).mono ?_; rintro e W2 ⟨rfl, rfl⟩)
  have d0 := H0.out.1.cell (i := 0) rfl
  have d1 := H0.out.1.cell (i := 1) rfl
  by_cases he : a1 = 0
  · subst he
    go_wp2_with (first
      | (go_at_call 17; (with_reducible refine (fa_newN a0_Line a0_Col _).mono ?_); rintro r1 W1 ⟨rfl, q3⟩; have H1 := Lib.hid (H0.out.2.trans (q3.mono H0.out.2.size)); clear q3)
      | (go_at_call 18; (with_reducible refine (fa_withinN nm _).mono ?_); rintro r1 W2 ⟨rfl, rfl⟩)
      | (go_at_call 14; (with_reducible refine (fa_textN _).mono ?_); rintro r1 W3 ⟨rfl, q3⟩; have H3 := Lib.hid (H1.out.trans (q3.mono H1.out.size)); clear q3)
      | (go_at_call 10; (with_reducible refine (fa_lives _ (tab_below H3.out HTB.out.1)).mono ?_); rintro r1 W4 ⟨rfl, q3⟩; have H4 := Lib.hid (H3.out.trans (q3.mono H3.out.size)); clear q3))
    go_ret
    exact ⟨rfl, H4.out⟩
  · have k0 : (a1 == 0) = false := by simp [he]
    have k1 : (a1 != a1) = false := by simp
    have k2 : (a1 == a1) = true := by simp
    go_upto_region 5 with (go_at_call 17; (with_reducible refine (fa_new a0_Line a0_Col a1 he _).mono ?_); rintro r1 W1 ⟨bn, rfl, q1, q3⟩; have H1 : Hid (Blk W1 X3 [.int .i64 a0_Line, .int .i64 a0_Col] 33 ∧ Blk W1 bn [.int .i64 a0_Line, .int .i64 a0_Col, .iface 23 (.int .i64 a1)] 48 ∧ Below w.heap.size w W1) := Lib.hid ⟨H0.out.1.chg (l := []) (Chg.of_fresh q3) (by simp), q1, H0.out.2.trans (q3.mono H0.out.2.size)⟩; clear q1 q3)
    clear d0 d1 H0
    go_upto_region 6 with (go_at_call 12; (with_reducible refine (fa_where [⟨true, a0_Line, a0_Col, ByteArray.empty⟩] 1 rfl a1 _ a0_Line a0_Col true (by with_unfolding_all rfl) _ (EV.at H1.out.2.1) ((H1.out.2.2.cell hz).trans HTB.out.2)).mono ?_); rintro r1 W2 ⟨rfl, q3⟩; have H2 : Hid (Blk W2 X3 [.int .i64 a0_Line, .int .i64 a0_Col] 33 ∧ Blk W2 bn [.int .i64 a0_Line, .int .i64 a0_Col, .iface 23 (.int .i64 a1)] 48 ∧ Below w.heap.size w W2) := Lib.hid ⟨H1.out.1.chg (l := []) (Chg.of_fresh q3) (by simp), H1.out.2.1.chg (l := []) (Chg.of_fresh q3) (by simp), H1.out.2.2.trans (q3.mono H1.out.2.2.size)⟩; clear q3 H1)
    have H3 : Hid (Blk (W2.alloc (.cells #[.int .i64 a0_Line, .int .i64 a0_Col] 33)) X3 [.int .i64 a0_Line, .int .i64 a0_Col] 33 ∧ Blk (W2.alloc (.cells #[.int .i64 a0_Line, .int .i64 a0_Col] 33)) bn [.int .i64 a0_Line, .int .i64 a0_Col, .iface 23 (.int .i64 a1)] 48 ∧ Below w.heap.size w (W2.alloc (.cells #[.int .i64 a0_Line, .int .i64 a0_Col] 33)) ∧ Blk (W2.alloc (.cells #[.int .i64 a0_Line, .int .i64 a0_Col] 33)) W2.heap.size [.int .i64 a0_Line, .int .i64 a0_Col] 33) := Lib.hid ⟨H2.out.1.alloc _, H2.out.2.1.alloc _, H2.out.2.2.alloc H2.out.2.2.size _, Blk.newA _ _ _⟩
    clear H2
    revert H3
    generalize (W2.alloc (.cells #[.int .i64 a0_Line, .int .i64 a0_Col] 33)) = W3
    generalize W2.heap.size = X8
    intro H3
    go_upto_region 7 with (go_at_call 13; (with_reducible refine (fa_who [⟨true, a0_Line, a0_Col, ByteArray.empty⟩] 1 rfl a1 _ ByteArray.empty false (by with_unfolding_all rfl) _ (EV.at H3.out.2.1) ((H3.out.2.2.1.cell hz).trans HTB.out.2)).mono ?_); rintro r1 W4 ⟨rfl, q3⟩; have H4 : Hid (Blk W4 X3 [.int .i64 a0_Line, .int .i64 a0_Col] 33 ∧ Blk W4 X8 [.int .i64 a0_Line, .int .i64 a0_Col] 33 ∧ Blk W4 bn [.int .i64 a0_Line, .int .i64 a0_Col, .iface 23 (.int .i64 a1)] 48 ∧ Below w.heap.size w W4) := Lib.hid ⟨H3.out.1.chg (l := []) (Chg.of_fresh q3) (by simp), H3.out.2.2.2.chg (l := []) (Chg.of_fresh q3) (by simp), H3.out.2.1.chg (l := []) (Chg.of_fresh q3) (by simp), H3.out.2.2.1.trans (q3.mono H3.out.2.2.1.size)⟩; clear q3 H3)
    obtain ⟨ba, hba⟩ : ∃ ba, W4.heap.size = ba := ⟨_, rfl⟩
    obtain ⟨V, hV⟩ : ∃ V, (W4.alloc (.cells #[.int .i64 a0_Line, .int .i64 a0_Col, .iface 23 (.int .i64 a1)] 48)).alloc (.cells #[.string nm, .iface 23 (.int .i64 a1)] 51) = V := ⟨_, rfl⟩
    have HB : Hid (FM w V X3 X8 bn ba (ba + 1) a0_Line a0_Col a1 nm) := Lib.hid (by
      rw [← hV, ← hba]
      have h1 := Blk.newA (W4.alloc (.cells #[.int .i64 a0_Line, .int .i64 a0_Col, .iface 23 (.int .i64 a1)] 48)) #[.string nm, .iface 23 (.int .i64 a1)] 51
      rw [World.size_alloc] at h1
      exact ⟨(H4.out.1.alloc _).alloc _, (H4.out.2.1.alloc _).alloc _, (H4.out.2.2.1.alloc _).alloc _, (Blk.newA W4 #[.int .i64 a0_Line, .int .i64 a0_Col, .iface 23 (.int .i64 a1)] 48).alloc _, h1, (H4.out.2.2.2.alloc H4.out.2.2.2.size _).alloc (by rw [World.size_alloc]; exact Nat.le_succ_of_le H4.out.2.2.2.size) _⟩)
    have d0 := H4.out.1.cell (i := 0) rfl
    have d1 := H4.out.1.cell (i := 1) rfl
    go_upto_region 8 with fail
    clear d0 d1 hV hba H4
    generalize ba + 1 = bi at HB ⊢
    have HBv := HB
    replace HB := Lib.hid (HB.out.below (Below.refl _ _).drew)
    have s0 := HB.out.s2
    go_region_held3 (fun W => W.cell? ⟨X3, 0, none⟩ = some (.int .i64 a0_Line) ∧ W.cell? ⟨X3, 1, none⟩ = some (.int .i64 a0_Col)) (first | with_reducible exact sA | with_reducible exact s0 | exact ((HBv.out.below ((Below.refl _ _).alloc (Nat.le_refl _) _)).below (Below.refl _ _).drew).s2 | exact (HB.out.below ((Below.refl _ _).alloc (Nat.le_refl _) _)).s2 | go_keep) (first
      | (go_at_call 19; (with_reducible refine (fa_Aerr ba a0_Line a0_Col a1 HI.out.1 HI.out.2.1 HI.out.2.2 he SA HS2.out.1 _ (tab_below HB.out.be HTB.out.1) HB.out.ba).mono ?_); rintro e1 V1 ⟨rfl, q3⟩; have HBn := Lib.hid (HB.out.below q3); clear HB; have HB := HBn; clear HBn; (try (have HSn := Lib.hid (HS.out.chg (l := []) (Chg.of_fresh q3) (by simp)); clear HS; have HS := HSn; clear HSn)); clear q3; have sA := HB.out.s2)
      | (go_at_call 19; (with_reducible refine (fa_Aerr ba a0_Line a0_Col a1 HI.out.1 HI.out.2.1 HI.out.2.2 he SA HS2.out.1 _ (tab_below (HB.out.below ((Below.refl _ _).alloc (Nat.le_refl _) _)).be HTB.out.1) (HB.out.below ((Below.refl _ _).alloc (Nat.le_refl _) _)).ba).mono ?_); rintro e1 V1 ⟨rfl, q3⟩; have HBn := Lib.hid ((HB.out.below ((Below.refl _ _).alloc (Nat.le_refl _) _)).below q3); have HSn := Lib.hid ((Blk.newA _ _ _).chg (l := []) (Chg.of_fresh q3) (by simp)); clear HB; have HB := HBn; clear HBn; (try clear HS); have HS := HSn; clear HSn; clear q3; have sA := HB.out.s2)
      | (go_at_call 19; (with_reducible refine (fa_Aerr ba a0_Line a0_Col a1 HI.out.1 HI.out.2.1 HI.out.2.2 he SA HS2.out.1 _ (tab_below ((HBv.out.below ((Below.refl _ _).alloc (Nat.le_refl _) _)).below (Below.refl _ _).drew).be HTB.out.1) ((HBv.out.below ((Below.refl _ _).alloc (Nat.le_refl _) _)).below (Below.refl _ _).drew).ba).mono ?_); rintro e1 V1 ⟨rfl, q3⟩; have HBn := Lib.hid (((HBv.out.below ((Below.refl _ _).alloc (Nat.le_refl _) _)).below (Below.refl _ _).drew).below q3); have HSn := Lib.hid (((Blk.newA V #[.bool true, .int .i64 a0_Line, .int .i64 a0_Col, .string ({ data := #[] } : ByteArray)] 39).chg (l := []) (Chg.of_fresh (Below.refl _ _).drew) (by simp)).chg (l := []) (Chg.of_fresh q3) (by simp)); clear HB; have HB := HBn; clear HBn; have HS := HSn; clear HSn; clear q3; have sA := HB.out.s2)
      | (go_at_call 20; (with_reducible refine (fa_Ierr bi nm a1 HNM.out HI.out.2.2 he SI HS2.out.2.1 _ (tab_below HB.out.be HTB.out.1) HB.out.bi).mono ?_); rintro e1 V1 ⟨rfl, q3⟩; have HBn := Lib.hid (HB.out.below q3); clear HB; have HB := HBn; clear HBn; (try (have HSn := Lib.hid (HS.out.chg (l := []) (Chg.of_fresh q3) (by simp)); clear HS; have HS := HSn; clear HSn)); clear q3; have sA := HB.out.s2)
      | (go_at_call 20; (with_reducible refine (fa_Ierr bi nm a1 HNM.out HI.out.2.2 he SI HS2.out.2.1 _ (tab_below (HB.out.below ((Below.refl _ _).alloc (Nat.le_refl _) _)).be HTB.out.1) (HB.out.below ((Below.refl _ _).alloc (Nat.le_refl _) _)).bi).mono ?_); rintro e1 V1 ⟨rfl, q3⟩; have HBn := Lib.hid ((HB.out.below ((Below.refl _ _).alloc (Nat.le_refl _) _)).below q3); have HSn := Lib.hid ((Blk.newA _ _ _).chg (l := []) (Chg.of_fresh q3) (by simp)); clear HB; have HB := HBn; clear HBn; (try clear HS); have HS := HSn; clear HSn; clear q3; have sA := HB.out.s2)
      | (go_at_call 15; (with_reducible refine (fr_text _ 1 1 [⟨true, a0_Line, a0_Col, ({ data := #[] } : ByteArray)⟩] rfl (by omega) HZ.out.1 a1 HI.out.2.2 SA HZ.out.2.1 _ (WL.one HS.out HZ.out.2.2 HI.out.1 HI.out.2.1)).mono ?_); rintro e1 V1 ⟨rfl, q3⟩; have HBn := Lib.hid (HB.out.below q3); clear HB; have HB := HBn; clear HBn; (try (have HSn := Lib.hid (HS.out.chg (l := []) (Chg.of_fresh q3) (by simp)); clear HS; have HS := HSn; clear HSn)); clear q3; have sA := HB.out.s2)
      | (go_at_call 15; (with_reducible refine (fr_text _ 1 1 [⟨true, a0_Line, a0_Col, ({ data := #[] } : ByteArray)⟩] rfl (by omega) HZ.out.1 a1 HI.out.2.2 SA HZ.out.2.1 _ (WL.one (Blk.newA _ #[.bool true, .int .i64 a0_Line, .int .i64 a0_Col, .string ({ data := #[] } : ByteArray)] 39) HZ.out.2.2 HI.out.1 HI.out.2.1)).mono ?_); rintro e1 V1 ⟨rfl, q3⟩; have HBn := Lib.hid ((HB.out.below ((Below.refl _ _).alloc (Nat.le_refl _) _)).below q3); have HSn := Lib.hid ((Blk.newA _ _ _).chg (l := []) (Chg.of_fresh q3) (by simp)); clear HB; have HB := HBn; clear HBn; (try clear HS); have HS := HSn; clear HSn; clear q3; have sA := HB.out.s2)
      | (go_at_call 15; (with_reducible refine (fr_text _ 1 1 [⟨false, 0, 0, nm⟩] rfl (by omega) HOK.out.2.1 a1 HI.out.2.2 SI HS2.out.2.1 _ (WL.one HS.out HOK.out.2.2.2.1 HOK.out.2.2.2.2 HOK.out.2.2.2.2)).mono ?_); rintro e1 V1 ⟨rfl, q3⟩; have HBn := Lib.hid (HB.out.below q3); clear HB; have HB := HBn; clear HBn; (try (have HSn := Lib.hid (HS.out.chg (l := []) (Chg.of_fresh q3) (by simp)); clear HS; have HS := HSn; clear HSn)); clear q3; have sA := HB.out.s2)
      | (go_at_call 15; (with_reducible refine (fr_text _ 1 1 [⟨false, 0, 0, nm⟩] rfl (by omega) HOK.out.2.1 a1 HI.out.2.2 SI HS2.out.2.1 _ (WL.one (Blk.newA _ #[.bool false, .int .i64 0, .int .i64 0, .string nm] 39) HOK.out.2.2.2.1 HOK.out.2.2.2.2 HOK.out.2.2.2.2)).mono ?_); rintro e1 V1 ⟨rfl, q3⟩; have HBn := Lib.hid ((HB.out.below ((Below.refl _ _).alloc (Nat.le_refl _) _)).below q3); have HSn := Lib.hid ((Blk.newA _ _ _).chg (l := []) (Chg.of_fresh q3) (by simp)); clear HB; have HB := HBn; clear HBn; (try clear HS); have HS := HSn; clear HSn; clear q3; have sA := HB.out.s2)
      | (go_at_call 21; (with_reducible refine (fe_unwrapA ba a0_Line a0_Col _ _ HB.out.ba).mono ?_); rintro e1 V1 ⟨rfl, rfl⟩)
      | (go_at_call 22; (with_reducible refine (fe_unwrapI bi nm _ _ HB.out.bi).mono ?_); rintro e1 V1 ⟨rfl, rfl⟩)
      | (go_at_call 8; (with_reducible refine (fa_code [] 0 rfl a1 he _ _ (EV.nil _ a1) ((HB.out.be.cell hz).trans HTB.out.2)).mono ?_); rintro e1 V1 ⟨rfl, q3⟩; have HBn := Lib.hid (HB.out.below q3); clear HB; have HB := HBn; clear HBn; (try (have HSn := Lib.hid (HS.out.chg (l := []) (Chg.of_fresh q3) (by simp)); clear HS; have HS := HSn; clear HSn)); clear q3; have sA := HB.out.s2))
    all_goals
      have p0 := HB.out.b3.cell (i := 0) rfl
      have p1 := HB.out.b3.cell (i := 1) rfl
      have q0 := HB.out.b8.cell (i := 0) rfl
      have q1 := HB.out.b8.cell (i := 1) rfl
      go_wp2_with (first
        | (go_at_call 8; (with_reducible refine (fa_code [⟨true, a0_Line, a0_Col, ByteArray.empty⟩] 1 rfl a1 he _ _ (EV.at HB.out.bn) ((HB.out.be.cell hz).trans HTB.out.2)).mono ?_); rintro e1 V1 ⟨rfl, q3⟩; have HB1 := Lib.hid (HB.out.below q3); clear q3)
        | (go_at_call 18; (with_reducible refine (fa_within nm _ _ _).mono ?_); rintro e1 V2 ⟨b2, rfl, q1', q3⟩; have HB2 := Lib.hid (HB1.out.below q3); have HE2 : Hid (EV V2 [⟨false, 0, 0, nm⟩, ⟨true, a0_Line, a0_Col, ByteArray.empty⟩] a1 (.iface 49 (.pointer (some ⟨b2, 0, none⟩)))) := Lib.hid ⟨b2, _, EV.at HB2.out.bn, Or.inr ⟨rfl, rfl, q1'⟩⟩; clear q1' q3)
        | (go_at_call 14; (with_reducible refine (fa_text [⟨false, 0, 0, nm⟩, ⟨true, a0_Line, a0_Col, ByteArray.empty⟩] 2 rfl (by omega) HO2.out.1 HO2.out.2.1 a1 HI.out.2.2 he _ S12 HS2.out.2.2 _ (tab_below HB2.out.be HTB.out.1) HE2.out).mono ?_); rintro e1 V3 ⟨rfl, q3⟩; have HB3 := Lib.hid (HB2.out.below q3); clear q3)
        | (go_at_call 14; (with_reducible refine (fa_text [⟨true, a0_Line, a0_Col, ByteArray.empty⟩] 1 rfl (by omega) HO2.out.2.2 HOK.out.1 a1 HI.out.2.2 he _ SA HS2.out.1 _ (tab_below HB3.out.be HTB.out.1) (EV.at HB3.out.bn)).mono ?_); rintro e1 V4 ⟨rfl, q3⟩; have HB4 := Lib.hid (HB3.out.below q3); clear q3)
        | (go_at_call 10; (with_reducible refine (fa_lives _ (tab_below HB4.out.be HTB.out.1)).mono ?_); rintro e1 V5 ⟨rfl, q3⟩; have HB5 := Lib.hid (HB4.out.be.trans (q3.mono HB4.out.be.size)); clear q3))
      go_ret
      exact ⟨rfl, HB5.out⟩


theorem own3 : ownKnob Tryd.prog.godebug = none := by kernel_rfl
theorem tab_rows : (Rows.laid_internal_strconv_uint64pow10 : DataW Unit) = Lib.tabData .u64 Lib.pow10Tab := by kernel_rfl
theorem tab_of (W : World) (hL : laidMetH Tryd.prog Rows.faultMakesRow.laid W) : Lib.TabIs Tryd.prog W "internal/strconv.uint64pow10" .u64 Lib.pow10Tab := by
  have h1 : laidMet Tryd.prog [("math/bits.deBruijn32tab", Rows.laid_math_bits_deBruijn32tab), ("math/bits.deBruijn64tab", Rows.laid_math_bits_deBruijn64tab), ("internal/strconv.uint64pow10", Rows.laid_internal_strconv_uint64pow10)] W ∧ handlesMet Tryd.prog [("errors.errorType", Rows.laid_errors_errorType)] W := hL
  have h2 := h1.1
  have h3 := h2.tail.tail
  rw [tab_rows] at h3
  exact Lib.tabIs_of_head (g := 1) (t := 116) (e := 109) (n := 20) (by kernel_rfl) (by kernel_rfl) (by kernel_rfl) (by kernel_rfl) (by kernel_rfl) (by kernel_rfl) h3
theorem err_row : (Tryd.prog.cutTypes.find? (·.1 == "internal/reflectlite.rtype")).map (·.2) = some 92 := by kernel_rfl
theorem err_one : ((List.range 152).filter fun t => Tryd.prog.rowNamed t [101, 114, 114, 111, 114]) = [29] := by kernel_rfl
theorem err_size : Tryd.prog.types.size = 152 := by kernel_rfl
theorem err_glob : Tryd.prog.globalNamed "errors.errorType" = some 0 := by kernel_rfl
theorem err_of (W : World) (hL : laidMetH Tryd.prog Rows.faultMakesRow.laid W) : W.cell? ⟨0, 0, none⟩ = some (.iface 92 (.agg #[.pointer (some ⟨4, 29, none⟩)])) := by
  have h1 : laidMet Tryd.prog [("math/bits.deBruijn32tab", Rows.laid_math_bits_deBruijn32tab), ("math/bits.deBruijn64tab", Rows.laid_math_bits_deBruijn64tab), ("internal/strconv.uint64pow10", Rows.laid_internal_strconv_uint64pow10)] W ∧ handlesMet Tryd.prog [("errors.errorType", Rows.laid_errors_errorType)] W := hL
  obtain ⟨name, u, ty, e1, e2, e3, e4, e5⟩ := h1.2 _ (List.mem_singleton.2 rfl)
  have en : name = [101, 114, 114, 111, 114] := (Option.some.inj e1).symm
  subst en
  obtain rfl := Option.some.inj (err_row.symm.trans e2)
  have hm : ty ∈ (List.range 152).filter fun t => Tryd.prog.rowNamed t [101, 114, 114, 111, 114] := List.mem_filter.2 ⟨List.mem_range.2 (by rw [← err_size]; exact e3), e4⟩
  rw [err_one] at hm
  obtain rfl := List.mem_singleton.1 hm
  have hh : typeHandle Tryd.prog 29 = .pointer (some ⟨4, 29, none⟩) := by kernel_rfl
  rw [hh] at e5
  simpa using World.var?_cell err_glob e5 0
set_option maxRecDepth 100000 in
theorem contract (H : Type) (enc : TypeId × Value → H) (W : World) (base : Nat) (args : Array Value) (ds gs : List (DataW H)) (before : List MemPlace)
    (hval0 : ∀ (j : Nat) t v, Tryd.f6.params[j]? = some t → args[j]? = some v → Value.okWide Tryd.prog W .any base t v)
    (hW : DataW.Whole enc Tryd.prog Tryd.f6.params.toList Rows.faultMakesSpec.vars false W args.toList ds gs before) (hSh : W.ShapedOpen Tryd.prog) (htab : Lib.TabIs Tryd.prog W "internal/strconv.uint64pow10" .u64 Lib.pow10Tab) (herr : W.cell? ⟨0, 0, none⟩ = some (.iface 92 (.agg #[.pointer (some ⟨4, 29, none⟩)]))) :
    Calls Tryd.prog 6 args W fun e W' => ∃ v, e = .returned v ∧ Rows.faultMakesSpec.post enc Tryd.prog Tryd.f6 false true false false W args v W' := by
  have hval : ∀ (j : Nat) t v, Tryd.f6.params[j]? = some t → args[j]? = some v → Value.okWide Tryd.prog W .any base t v := hval0
  have hW' := hW
  obtain ⟨p, q, hA0, hV, rfl, hfz, hnd⟩ := hW
  have hA : DataW.TrodAll enc Tryd.prog W 0 (fun _ => true) true Tryd.f6.params.toList args.toList ds p := hA0
  rw [Tryd.params6] at hA hval
  obtain ⟨v0, vs0, d0, ds0, p0, q0, hargs, rfl, rfl, h0, r0⟩ := trodAll_cons hA
  obtain ⟨v1, vs1, d1, ds1, p1, q1, rfl, rfl, rfl, h1, r1⟩ := trodAll_cons r0
  obtain ⟨v2, vs2, d2, ds2, p2, q2, rfl, rfl, rfl, h2, r2⟩ := trodAll_cons r1
  obtain ⟨rfl, rfl, rfl⟩ := trodAll_nil r2
  obtain rfl : args = #[v0, v1, v2] := by cases args; simp_all
  obtain ⟨rfl, rfl⟩ := trodVars_none hV
  have k0 := h0
  have lt0 : ∀ x ∈ p0, x.block < W.heap.size := by obtain ⟨m, hm⟩ := k0; exact DataW.trod_lt m _ _ _ hm
  obtain ⟨u0_0, u0_1, y0_0, y0_1, nn0, rfl, _, _, g0_0, g0_1⟩ := open_flat2 Tryd.underlying33 (by kernel_rfl) (by kernel_rfl) (hval 0 33 v0 rfl rfl) h0
  obtain ⟨a0_Line, rfl, w0_Line⟩ := fld_int Tryd.underlying3 g0_0
  obtain ⟨a0_Col, rfl, w0_Col⟩ := fld_int Tryd.underlying3 g0_1
  have k1 := h1
  have lt1 : ∀ x ∈ p1, x.block < W.heap.size := by obtain ⟨m, hm⟩ := k1; exact DataW.trod_lt m _ _ _ hm
  obtain ⟨a1, rfl, rfl, rfl, w1⟩ := open_int Tryd.underlying23 (hval 1 23 v1 rfl rfl) h1
  have k2 := h2
  have lt2 : ∀ x ∈ p2, x.block < W.heap.size := by obtain ⟨m, hm⟩ := k2; exact DataW.trod_lt m _ _ _ hm
  obtain ⟨a2, rfl, rfl, rfl, w2⟩ := open_string Tryd.underlying9 (hval 2 9 v2 rfl rfl) h2
  clear hA0 hval0
  refine (walk a0_Line a0_Col a1 a2 W htab herr w0_Line w0_Col w1 w2).mono fun e W' ⟨he, bel⟩ => ?_
  subst he
  exact ⟨_, rfl, _, _, _, [], _, [], hW', trodAll_mk1 (shut_bool Tryd.underlying4 _), (trodAll_cons_mk (Below.trod laidOut (by kernel_rfl) (of_decide_eq_true (by kernel_rfl)) k0 bel lt0) (trodAll_cons_mk (Below.trod laidOut (by kernel_rfl) (of_decide_eq_true (by kernel_rfl)) k1 bel lt1) (trodAll_cons_mk (Below.trod laidOut (by kernel_rfl) (of_decide_eq_true (by kernel_rfl)) k2 bel lt2) trodAll_mk0))), rfl, bel.frame _, fun h => by cases h⟩

noncomputable def laidWorld (os : Os) : World :=
  { World.holding Tryd.prog os ⟨#[], #[], []⟩ with heap := (((((World.holding Tryd.prog os ⟨#[], #[], []⟩).heap.modify 2 fun
      | .cells _ t frozen => .cells #[.int .u8 0, .int .u8 1, .int .u8 28, .int .u8 2, .int .u8 29, .int .u8 14, .int .u8 24, .int .u8 3, .int .u8 30, .int .u8 22, .int .u8 20, .int .u8 15, .int .u8 25, .int .u8 17, .int .u8 4, .int .u8 8, .int .u8 31, .int .u8 27, .int .u8 13, .int .u8 23, .int .u8 21, .int .u8 19, .int .u8 16, .int .u8 7, .int .u8 26, .int .u8 12, .int .u8 18, .int .u8 6, .int .u8 11, .int .u8 5, .int .u8 10, .int .u8 9] t frozen
      | o => o).modify 3 fun
      | .cells _ t frozen => .cells #[.int .u8 0, .int .u8 1, .int .u8 56, .int .u8 2, .int .u8 57, .int .u8 49, .int .u8 28, .int .u8 3, .int .u8 61, .int .u8 58, .int .u8 42, .int .u8 50, .int .u8 38, .int .u8 29, .int .u8 17, .int .u8 4, .int .u8 62, .int .u8 47, .int .u8 59, .int .u8 36, .int .u8 45, .int .u8 43, .int .u8 51, .int .u8 22, .int .u8 53, .int .u8 39, .int .u8 33, .int .u8 30, .int .u8 24, .int .u8 18, .int .u8 12, .int .u8 5, .int .u8 63, .int .u8 55, .int .u8 48, .int .u8 27, .int .u8 60, .int .u8 41, .int .u8 37, .int .u8 16, .int .u8 46, .int .u8 35, .int .u8 44, .int .u8 21, .int .u8 52, .int .u8 32, .int .u8 23, .int .u8 11, .int .u8 54, .int .u8 26, .int .u8 40, .int .u8 15, .int .u8 34, .int .u8 20, .int .u8 31, .int .u8 10, .int .u8 25, .int .u8 14, .int .u8 19, .int .u8 9, .int .u8 13, .int .u8 8, .int .u8 7, .int .u8 6] t frozen
      | o => o).modify 1 fun
      | .cells _ t frozen => .cells #[.int .u64 1, .int .u64 10, .int .u64 100, .int .u64 1000, .int .u64 10000, .int .u64 100000, .int .u64 1000000, .int .u64 10000000, .int .u64 100000000, .int .u64 1000000000, .int .u64 10000000000, .int .u64 100000000000, .int .u64 1000000000000, .int .u64 10000000000000, .int .u64 100000000000000, .int .u64 1000000000000000, .int .u64 10000000000000000, .int .u64 100000000000000000, .int .u64 1000000000000000000, .int .u64 10000000000000000000] t frozen
      | o => o).modify 0 fun
      | .cells _ t frozen => .cells #[.iface 92 (.agg #[.pointer (some ⟨4, 29, none⟩)])] t frozen
      | o => o) }
theorem laid_met (os : Os) : laidMetH Tryd.prog Rows.faultMakesRow.laid ((laidWorld os).forCall (fun _ _ => 0) ⟨#[], #[.agg #[.int .i64 0, .int .i64 0], .int .i64 0, .string ByteArray.empty], []⟩).memory :=
  laidMetH_of_parts (laidMet_of_run' 8 (by kernel_rfl) (by kernel_rfl)) (by kernel_rfl)
theorem reads (os : Os) {H : Type} (enc : TypeId × Value → H) : ∃ places, DataW.whole enc Tryd.prog ((laidWorld os).forCall (fun _ _ => 0) ⟨#[], #[.agg #[.int .i64 0, .int .i64 0], .int .i64 0, .string ByteArray.empty], []⟩).memory Tryd.f6.params.toList Rows.faultMakesSpec.vars false (#[.agg #[.int .i64 0, .int .i64 0], .int .i64 0, .string ByteArray.empty] : Array Value).toList 8 = some ([.agg [.lit (.int .i64 0), .lit (.int .i64 0)], .lit (.int .i64 0), .lit (.string [])], [], places) :=
  ⟨[], by kernel_rfl⟩
set_option maxRecDepth 100000 in
theorem lifted (os : Os) (started : os.Started) (H : Type) (enc : TypeId × Value → H) (F : Stop.Interp) :
    ReturnsInHanded {} Tryd.checked os 6 .any ((OpenSpec.ofChange Rows.faultMakesSpec).preRow enc Tryd.prog Tryd.f6 Rows.faultMakesRow.domain false Rows.faultMakesRow.laid) (((OpenSpec.ofChange Rows.faultMakesSpec).at F).post enc Tryd.prog Tryd.f6 false true false false) := by
  obtain ⟨places, hx⟩ := reads os enc
  refine returnsInHanded_of_row (C := Tryd.checked) (s := OpenSpec.ofChange Rows.faultMakesSpec) own3 started (by kernel_rfl) Tryd.func6
    (witness_row_at (enc := enc) (C := Tryd.checked) false (laidWorld os) #[.agg #[.int .i64 0, .int .i64 0], .int .i64 0, .string ByteArray.empty] rfl (by kernel_rfl) (by kernel_rfl) (by kernel_rfl)
      (OpenSpec.preRow_of_cond 8 hx (by kernel_rfl) (fun k hk => by cases hk) (by kernel_rfl) (laid_met os))) ?_
  intro W base args ds gs before hval hW _ _ _ hL hSh _
  exact contract H enc W base args ds gs before hval hW hSh (tab_of W hL) (err_of W hL)
theorem said : Rows.FaultMakesSaid :=
  OpenClaim.holds_of_cond 6 Tryd.f6 rfl rfl rfl rfl rfl rfl rfl ⟨rfl, rfl, rfl, rfl, rfl⟩ rfl rfl rfl rfl rfl (by kernel_rfl) Tryd.func6 (by kernel_rfl)
    (of_decide_eq_true (by kernel_rfl)) (by unfold Func.isWrapper; first | (rw [if_pos (by decide +kernel)]; kernel_rfl) | (rw [if_neg (by decide +kernel)]; exact ⟨rfl, rfl⟩))
    (fun os started H enc _ F => by rw [OpenClaim.pre_eq_preRow]; exact lifted os started H enc F)
theorem plain (f : FuncId) (fn : Func) (hf : Tryd.pinned.checked.prog.funcNamed "repartee/reparteelaw16.FaultMakes" = some f) (hfn : Tryd.pinned.checked.prog.funcs[f]? = some fn) :
    true = Tryd.pinned.checked.prog.looks [] ∧ ∀ (j : Nat) t, fn.params[j]? = some t → Tryd.pinned.checked.prog.wantsStandIn t = false := by
  obtain rfl : f = 6 := Option.some.inj ((show Tryd.prog.funcNamed "repartee/reparteelaw16.FaultMakes" = some 6 by kernel_rfl).symm.trans hf) |>.symm
  obtain rfl : fn = Tryd.f6 := (Option.some.inj (Tryd.func6.symm.trans hfn)).symm
  refine ⟨by kernel_rfl, fun j t ht => ?_⟩
  rw [Tryd.params6] at ht
  have hm : t ∈ [33, 23, 9] := by simpa using Array.mem_of_getElem? ht
  have hall : ([33, 23, 9].all fun u => !Tryd.prog.wantsStandIn u) = true := by kernel_rfl
  exact (show Tryd.prog.wantsStandIn t = false by simpa using List.all_eq_true.1 hall t hm)
/-- The statement. -/
theorem proved : Rows.FaultMakesCardSaid :=
  Claim7.holds_tied_plain_at .later [] _ _ _ _ said (fun _ h => by cases h) (by kernel_rfl) (fun _ h => by cases h) faultMakes_row_tie rfl ⟨rfl, rfl⟩ (by kernel_rfl) rfl plain (by kernel_rfl)
#print axioms proved
end Go.Proofs.YtlofcccabdocgaaDoor.faultMakes
