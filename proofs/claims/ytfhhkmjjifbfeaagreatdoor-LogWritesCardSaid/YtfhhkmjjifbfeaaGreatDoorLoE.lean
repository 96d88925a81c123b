/- Several texts in one. -/
import Derived.Test.YtfhhkmjjifbfeaaGreatDoorLoD
import Derived.Test.YtfhhkmjjifbfeaaGreatDoorTx6
import Derived.Test.YtfhhkmjjifbfeaaGreatDoorQtR
import Derived.Deep.RegionHeld3
import Derived.BigRegion
import Derived.WalkKit
import Derived.ProofKit
import Derived.Handy
import Derived.WalkLawsBesides
import Derived.WalkSpells
import Derived.Lib.Hide
import Derived.Lib.SliceRun
import Derived.Deep.RegionLaw
import Derived.RegionTactic
import Derived.ChangeAlike
import Derived.WalkSmall
import Derived.Deep.QuietTactic
import Derived.BigQuiet
import Derived.OwnWalk
import Derived.Outline
import Derived.Deep.CutRange
import Derived.Deep.CutBlock
import Derived.LoopTactic
/- Log: the document's Print (rounds, drains, opens). -/
namespace Go.Proofs.YtfhhkmjjifbfeaaGreatDoor
open Go.ChangeShapes Go.WideShapes Go.ChangeAt Go.RowKit
set_option linter.unusedSimpArgs false
set_option linter.unusedVariables false

set_option maxRecDepth 20000 in
set_option maxHeartbeats 16000000 in
theorem rg_print1 (i n t : Int) (b : ByteArray) (e s0 s1 s2 s3 s4 s5 : Int) (hb : b.size ≤ 4000) (hi : Lo.i64 i) (hn : Lo.i64 n) (he : Lo.i64 e) (ht : t ≤ 9223372036854775807) (h0 : s0 ≤ 9223372036854775807) (h1 : Lo.i64 s1) (h3 : Lo.i64 s3) (h4 : Lo.i64 s4) (R : ByteArray) (hR : Le.t (Lo.line ⟨1, i, n, t, b, e, s0, s1, s2, s3, s4, s5⟩) = R) (w : World) :
    Calls Tryz.prog 16 #[.agg #[.int .i64 1, .int .i64 i, .int .i64 n, .int .i64 t, .string b, .int .i64 e, .int .i64 s0, .int .i64 s1, .int .i64 s2, .int .i64 s3, .int .i64 s4, .int .i64 s5]] w fun z w' => z = .returned (.string R) ∧ Below w.heap.size w w' := by
  obtain ⟨NA, hNA⟩ : ∃ x, Le.num i = x := ⟨_, rfl⟩
  obtain ⟨NB, hNB⟩ : ∃ x, Le.num n = x := ⟨_, rfl⟩
  have zA := Lo.num_sz hNA hi
  have zB := Lo.num_sz hNB hn
  have HN := Lib.hid (And.intro hNA (And.intro hNB (And.intro hi hn)))
  obtain ⟨tf, htf⟩ : ∃ n : Nat, Tk.own t = (n : Int) := ⟨(Tk.own t).toNat, by have := Tk.own_nn t; omega⟩
  obtain ⟨T0, hT0⟩ : ∃ x, Le.t (Lo.tt t) = x := ⟨_, rfl⟩
  have hT1 : T0.data.toList = Lo.tt t := by rw [← hT0]; exact Le.t_list _
  have zT : T0.size ≤ 30 := by have h := Lo.tt_len ht; rw [← hT1] at h; exact h
  have HT : Hid (t ≤ 9223372036854775807 ∧ Tk.own t = (tf : Int) ∧ T0.data.toList = Tx.text tf) := Lib.hid ⟨ht, htf, by rw [hT1]; unfold Lo.tt; rw [htf]; rfl⟩
  have HR : Hid (({ data := #[114, 111, 117, 110, 100, 32] } : ByteArray) ++ T0 = R) := Lib.hid (by
    rw [← hR]
    refine Le.t_of ?_
    rw [Lo.apl, hT1]
    show _ = Lib.join [[114, 111, 117, 110, 100], Lo.tt t] [32]
    rw [Lo.join_two, Lib.join_one]; rfl)
  clear htf hT0 hT1
  obtain ⟨X, hX⟩ : ∃ X, w.heap.size = X := ⟨_, rfl⟩
  have HB : Hid (Blk (w.alloc (.cells #[.int .i64 1, .int .i64 i, .int .i64 n, .int .i64 t, .string b, .int .i64 e, .int .i64 s0, .int .i64 s1, .int .i64 s2, .int .i64 s3, .int .i64 s4, .int .i64 s5] 26)) X [.int .i64 1, .int .i64 i, .int .i64 n, .int .i64 t, .string b, .int .i64 e, .int .i64 s0, .int .i64 s1, .int .i64 s2, .int .i64 s3, .int .i64 s4, .int .i64 s5] 26 ∧ Below w.heap.size w (w.alloc (.cells #[.int .i64 1, .int .i64 i, .int .i64 n, .int .i64 t, .string b, .int .i64 e, .int .i64 s0, .int .i64 s1, .int .i64 s2, .int .i64 s3, .int .i64 s4, .int .i64 s5] 26))) := Lib.hid ⟨by rw [← hX]; exact Blk.newA _ _ _, (Below.refl _ _).alloc (Nat.le_refl _) _⟩
  clear hNA hNB hi hn he ht h0 h1 h3 h4 hR hb
  go_enter Tryz.func16, Tryz.ntmps16
  go_upto_region 1 with fail
  clear hX
  revert HB
  generalize (w.alloc (.cells #[.int .i64 1, .int .i64 i, .int .i64 n, .int .i64 t, .string b, .int .i64 e, .int .i64 s0, .int .i64 s1, .int .i64 s2, .int .i64 s3, .int .i64 s4, .int .i64 s5] 26)) = W1
  intro HB
  go_cut [3, 4, 5] from 6 to 15 (fun va vb vc wx => va = .string (({ data := #[32] } : ByteArray) ++ NA) ∧ vb = .string (({ data := #[32] } : ByteArray) ++ NB) ∧ ∃ Y, vc = .pointer (some ⟨Y, 0, none⟩) ∧ Hid ((Blk wx X [.int .i64 1, .int .i64 i, .int .i64 n, .int .i64 t, .string b, .int .i64 e, .int .i64 s0, .int .i64 s1, .int .i64 s2, .int .i64 s3, .int .i64 s4, .int .i64 s5] 26 ∧ Below w.heap.size w wx) ∧ Blk wx Y [.int .i64 s0, .int .i64 s1, .int .i64 s2, .int .i64 s3, .int .i64 s4, .int .i64 s5] 24))
  case first =>
    refine wp_region_env (fun env L w' => (∀ j, L j = true → GP X i n (.agg #[.int .i64 s0, .int .i64 s1, .int .i64 s2, .int .i64 s3, .int .i64 s4, .int .i64 s5]) NA NB j (env j)) ∧ (Blk w' X [.int .i64 1, .int .i64 i, .int .i64 n, .int .i64 t, .string b, .int .i64 e, .int .i64 s0, .int .i64 s1, .int .i64 s2, .int .i64 s3, .int .i64 s4, .int .i64 s5] 26 ∧ Below w.heap.size w w') ∧ RP w w' X (L 10) (L 13) (env 10) [.int .i64 0, .int .i64 0, .int .i64 0, .int .i64 0, .int .i64 0, .int .i64 0] [.int .i64 s0, .int .i64 s1, .int .i64 s2, .int .i64 s3, .int .i64 s4, .int .i64 s5] 24) (fun _ => undef) (by kernel_rfl) (by kernel_rfl) (by kernel_rfl) (by kernel_rfl) ?h0 ?hstep ?hend
    case h0 => exact ⟨by simp, ⟨HB.out.1, HB.out.2.drew⟩, by intro h; simp at h⟩
    case hstep =>
      refine ⟨?o0, ?o1, ?o2, ?o3, ?o4, ?o5, ?o6, ?o7, ?o8, ?o9, ?o10, ?o11, ?o12, ?o13, trivial⟩
      case o0 =>
        intro E env L w' hcl hL hp hd ho2 ⟨hG, hK, hR⟩
        have y1 : E.eval (.tmp 1) = .pointer (some ⟨X, 0, none⟩) := ho2 1 (by kernel_rfl)
        refine wp_val (v := .pointer (some ⟨X, 1, none⟩)) (w' := w') ?_ ⟨_, rfl, envG hG rfl, hK, by simpa [upd, doneL] using hR⟩
        simp only [execOp, y1]
        go_simp
        all_goals omega
      case o1 =>
        intro E env L w' hcl hL hp hd ho2 ⟨hG, hK, hR⟩
        have d0 : L 0 = true := hp ⟨0, .data⟩ (by simp) rfl
        have x0 : E.eval (.tmp 6) = _ := (hd 0 6 d0 rfl (by simp)).trans (hG 0 d0)
        have c1 := hK.1.cell (i := 1) rfl
        refine wp_val (v := .int .i64 i) (w' := w') ?_ ⟨_, rfl, envG hG rfl, hK, by simpa [upd, doneL] using hR⟩
        simp only [execOp, x0]
        go_simp
        all_goals omega
      case o2 =>
        intro E env L w' hcl hL hp hd ho2 ⟨hG, hK, hR⟩
        have d1 : L 1 = true := hp ⟨1, .data⟩ (by simp) rfl
        have x1 : E.eval (.tmp 7) = _ := (hd 1 7 d1 rfl (by simp)).trans (hG 1 d1)
        have hKh := Lib.hid hK
        have hRh := Lib.hid hR
        have z1 : E.tmps[7]?.getD undef = .int .i64 i := by simpa [Act.eval, GP] using x1
        have hGh := Lib.hid hG
        clear hK hR hG x1 hd ho2 hcl hp
        unfold Oper.wp
        simp only [execOp]
        go_simp
        (try rw [z1])
        go_at_call 30
        refine (rl_num i HN.out.2.2.1.1 HN.out.2.2.1.2 NA HN.out.1.symm _).mono ?_
        rintro e1 V1 ⟨rfl, q3⟩
        exact ⟨_, rfl, envG hGh.out rfl, ⟨hKh.out.1.chg (l := []) (Chg.of_fresh q3) (by simp), hKh.out.2.trans (q3.mono hKh.out.2.size)⟩, by have h := hRh.out.below q3; simpa [upd, doneL] using h⟩
      case o3 =>
        intro E env L w' hcl hL hp hd ho2 ⟨hG, hK, hR⟩
        have d2 : L 2 = true := hp ⟨2, .data⟩ (by simp) rfl
        have x2 : E.eval (.tmp 8) = _ := (hd 2 8 d2 rfl (by simp)).trans (hG 2 d2)
        refine wp_val (v := .string (({ data := #[32] } : ByteArray) ++ NA)) (w' := w') ?_ ⟨_, rfl, envG hG rfl, hK, by simpa [upd, doneL] using hR⟩
        simp only [execOp, x2]
        go_simp
        all_goals omega
      case o4 =>
        intro E env L w' hcl hL hp hd ho2 ⟨hG, hK, hR⟩
        have y1 : E.eval (.tmp 1) = .pointer (some ⟨X, 0, none⟩) := ho2 1 (by kernel_rfl)
        refine wp_val (v := .pointer (some ⟨X, 2, none⟩)) (w' := w') ?_ ⟨_, rfl, envG hG rfl, hK, by simpa [upd, doneL] using hR⟩
        simp only [execOp, y1]
        go_simp
        all_goals omega
      case o5 =>
        intro E env L w' hcl hL hp hd ho2 ⟨hG, hK, hR⟩
        have d4 : L 4 = true := hp ⟨4, .data⟩ (by simp) rfl
        have x4 : E.eval (.tmp 10) = _ := (hd 4 10 d4 rfl (by simp)).trans (hG 4 d4)
        have c2 := hK.1.cell (i := 2) rfl
        refine wp_val (v := .int .i64 n) (w' := w') ?_ ⟨_, rfl, envG hG rfl, hK, by simpa [upd, doneL] using hR⟩
        simp only [execOp, x4]
        go_simp
        all_goals omega
      case o6 =>
        intro E env L w' hcl hL hp hd ho2 ⟨hG, hK, hR⟩
        have d5 : L 5 = true := hp ⟨5, .data⟩ (by simp) rfl
        have x5 : E.eval (.tmp 11) = _ := (hd 5 11 d5 rfl (by simp)).trans (hG 5 d5)
        have hKh := Lib.hid hK
        have hRh := Lib.hid hR
        have z1 : E.tmps[11]?.getD undef = .int .i64 n := by simpa [Act.eval, GP] using x5
        have hGh := Lib.hid hG
        clear hK hR hG x5 hd ho2 hcl hp
        unfold Oper.wp
        simp only [execOp]
        go_simp
        (try rw [z1])
        go_at_call 30
        refine (rl_num n HN.out.2.2.2.1 HN.out.2.2.2.2 NB HN.out.2.1.symm _).mono ?_
        rintro e1 V1 ⟨rfl, q3⟩
        exact ⟨_, rfl, envG hGh.out rfl, ⟨hKh.out.1.chg (l := []) (Chg.of_fresh q3) (by simp), hKh.out.2.trans (q3.mono hKh.out.2.size)⟩, by have h := hRh.out.below q3; simpa [upd, doneL] using h⟩
      case o7 =>
        intro E env L w' hcl hL hp hd ho2 ⟨hG, hK, hR⟩
        have d6 : L 6 = true := hp ⟨6, .data⟩ (by simp) rfl
        have x6 : E.eval (.tmp 12) = _ := (hd 6 12 d6 rfl (by simp)).trans (hG 6 d6)
        refine wp_val (v := .string (({ data := #[32] } : ByteArray) ++ NB)) (w' := w') ?_ ⟨_, rfl, envG hG rfl, hK, by simpa [upd, doneL] using hR⟩
        simp only [execOp, x6]
        go_simp
        all_goals omega
      case o8 =>
        intro E env L w' hcl hL hp hd ho2 ⟨hG, hK, hR⟩
        have y1 : E.eval (.tmp 1) = .pointer (some ⟨X, 0, none⟩) := ho2 1 (by kernel_rfl)
        refine wp_val (v := .pointer (some ⟨X, 6, none⟩)) (w' := w') ?_ ⟨_, rfl, envG hG rfl, hK, by simpa [upd, doneL] using hR⟩
        simp only [execOp, y1]
        go_simp
        all_goals omega
      case o9 =>
        intro E env L w' hcl hL hp hd ho2 ⟨hG, hK, hR⟩
        have d8 : L 8 = true := hp ⟨8, .data⟩ (by simp) rfl
        have x8 : E.eval (.tmp 14) = _ := (hd 8 14 d8 rfl (by simp)).trans (hG 8 d8)
        have c6 := hK.1.cell (i := 6) rfl
        have c7 := hK.1.cell (i := 7) rfl
        have c8 := hK.1.cell (i := 8) rfl
        have c9 := hK.1.cell (i := 9) rfl
        have c10 := hK.1.cell (i := 10) rfl
        have c11 := hK.1.cell (i := 11) rfl
        refine wp_val (v := .agg #[.int .i64 s0, .int .i64 s1, .int .i64 s2, .int .i64 s3, .int .i64 s4, .int .i64 s5]) (w' := w') ?_ ⟨_, rfl, envG hG rfl, hK, by simpa [upd, doneL] using hR⟩
        simp only [execOp, x8]
        go_simp
        all_goals omega
      case o10 =>
        intro E env L w' hcl hL hp hd ho2 ⟨hG, hK, hR⟩
        have hs := hK.2.size
        have hx := hK.1.lt
        have ka : Below w'.heap.size w' (w'.alloc (.cells #[.int .i64 0, .int .i64 0, .int .i64 0, .int .i64 0, .int .i64 0, .int .i64 0] 24)) := (Below.refl _ _).alloc (Nat.le_refl _) _
        have h13 : L 13 = false := by
          cases h0 : L 13 with
          | false => rfl
          | true =>
            have h1 := hcl 13 _ rfl h0 ⟨10, .data⟩ (by simp) rfl
            exact absurd (h1.symm.trans hL) (by simp)
        refine wp_val (v := .pointer (some ⟨w'.heap.size, 0, none⟩)) (w' := w'.alloc (.cells #[.int .i64 0, .int .i64 0, .int .i64 0, .int .i64 0, .int .i64 0, .int .i64 0] 24)) ?_ ⟨_, rfl, envG hG trivial, ⟨hK.1.chg (l := []) (Chg.of_fresh ka) (by simp), hK.2.trans (ka.mono hK.2.size)⟩, fun _ => ⟨w'.heap.size, by simp [upd], hs, by omega, by simp only [doneL, show (13 : Nat) ≠ 10 by decide, h13]; simpa [h13] using Blk.newA w' #[.int .i64 0, .int .i64 0, .int .i64 0, .int .i64 0, .int .i64 0, .int .i64 0] 24⟩⟩
        simp only [execOp]
        go_simp
      case o11 =>
        intro E env L w' hcl hL hp hd ho2 ⟨hG, hK, hR⟩
        have d3 : L 3 = true := hp ⟨3, .data⟩ (by simp) rfl
        have x3 : E.eval (.tmp 9) = _ := (hd 3 9 d3 rfl (by simp)).trans (hG 3 d3)
        refine wp_val (v := .string (({ data := #[32] } : ByteArray) ++ NA)) (w' := w') ?_ ⟨_, rfl, envG hG rfl, hK, by simpa [upd, doneL] using hR⟩
        simp only [execOp, x3]
        go_simp
        all_goals omega
      case o12 =>
        intro E env L w' hcl hL hp hd ho2 ⟨hG, hK, hR⟩
        have d7 : L 7 = true := hp ⟨7, .data⟩ (by simp) rfl
        have x7 : E.eval (.tmp 13) = _ := (hd 7 13 d7 rfl (by simp)).trans (hG 7 d7)
        refine wp_val (v := .string (({ data := #[32] } : ByteArray) ++ NB)) (w' := w') ?_ ⟨_, rfl, envG hG rfl, hK, by simpa [upd, doneL] using hR⟩
        simp only [execOp, x7]
        go_simp
        all_goals omega
      case o13 =>
        intro E env L w' hcl hL hp hd ho2 ⟨hG, hK, hR⟩
        have d9 : L 9 = true := hp ⟨9, .data⟩ (by simp) rfl
        have x9 : E.eval (.tmp 15) = _ := (hd 9 15 d9 rfl (by simp)).trans (hG 9 d9)
        have d10 : L 10 = true := hp ⟨10, .data⟩ (by simp) rfl
        obtain ⟨Y, e10, hY, hYX, hB⟩ := hR d10
        have x10 : E.eval (.tmp 5) = .pointer (some ⟨Y, 0, none⟩) := (hd 10 5 d10 rfl (by simp)).trans e10
        rw [if_neg (by rw [hL]; simp)] at hB
        have y0 := hB.cell (i := 0) rfl
        have f0 := hB.free 0
        have y1 := hB.cell (i := 1) rfl
        have f1 := hB.free 1
        have y2 := hB.cell (i := 2) rfl
        have f2 := hB.free 2
        have y3 := hB.cell (i := 3) rfl
        have f3 := hB.free 3
        have y4 := hB.cell (i := 4) rfl
        have f4 := hB.free 4
        have y5 := hB.cell (i := 5) rfl
        have f5 := hB.free 5
        have kc : Chg [Y] w' ((((((w'.setCell ⟨Y, 0, none⟩ (.int .i64 s0)).setCell ⟨Y, 1, none⟩ (.int .i64 s1)).setCell ⟨Y, 2, none⟩ (.int .i64 s2)).setCell ⟨Y, 3, none⟩ (.int .i64 s3)).setCell ⟨Y, 4, none⟩ (.int .i64 s4)).setCell ⟨Y, 5, none⟩ (.int .i64 s5)) := (((((((Chg.refl [Y] w').set (Or.inl (List.mem_singleton.2 rfl)) 0 (.int .i64 s0)).set (Or.inl (List.mem_singleton.2 rfl)) 1 (.int .i64 s1)).set (Or.inl (List.mem_singleton.2 rfl)) 2 (.int .i64 s2)).set (Or.inl (List.mem_singleton.2 rfl)) 3 (.int .i64 s3)).set (Or.inl (List.mem_singleton.2 rfl)) 4 (.int .i64 s4)).set (Or.inl (List.mem_singleton.2 rfl)) 5 (.int .i64 s5))
        refine wp_skp (w' := ((((((w'.setCell ⟨Y, 0, none⟩ (.int .i64 s0)).setCell ⟨Y, 1, none⟩ (.int .i64 s1)).setCell ⟨Y, 2, none⟩ (.int .i64 s2)).setCell ⟨Y, 3, none⟩ (.int .i64 s3)).setCell ⟨Y, 4, none⟩ (.int .i64 s4)).setCell ⟨Y, 5, none⟩ (.int .i64 s5))) ?_ ⟨_, rfl, envG hG trivial, ⟨hK.1.chg kc (by simp; omega), kc.onto hK.2 hK.2.size (by simp; omega)⟩, fun _ => ⟨Y, by simpa [upd] using e10, hY, hYX, by simp only [doneL]; exact ((((((hB.set 0 (.int .i64 s0)).set 1 (.int .i64 s1)).set 2 (.int .i64 s2)).set 3 (.int .i64 s3)).set 4 (.int .i64 s4)).set 5 (.int .i64 s5))⟩⟩
        simp only [execOp, x9, x10]
        go_simp
    case hend =>
      intro env w' ⟨hG, hK, hR⟩
      obtain ⟨Y, e10, hY, hYX, hBY⟩ := hR rfl
      rw [if_pos (by simp)] at hBY
      have HZ := Lib.hid (And.intro hK hBY)
      have e11 : env 11 = _ := hG 11 rfl
      have e12 : env 12 = _ := hG 12 rfl
      clear hK hBY hR hG
      simp only [putsE, Act.put, e10, e11, e12, List.setIfInBounds_toArray, List.set_cons_zero, List.set_cons_succ]
      go_wp2_with fail
      go_meet
      exact ⟨rfl, rfl, Y, rfl, HZ⟩
  case rest =>
    obtain ⟨rfl, rfl, Y, rfl, HZ⟩ := hcut
    clear HB
    have HC := Lib.hid HZ.out.1
    have d0 := HC.out.1.cell (i := 0) rfl
    have d1 := HC.out.1.cell (i := 1) rfl
    have d2 := HC.out.1.cell (i := 2) rfl
    have d3 := HC.out.1.cell (i := 3) rfl
    have d4 := HC.out.1.cell (i := 4) rfl
    have d5 := HC.out.1.cell (i := 5) rfl
    have d6 := HC.out.1.cell (i := 6) rfl
    have d7 := HC.out.1.cell (i := 7) rfl
    have d8 := HC.out.1.cell (i := 8) rfl
    have d9 := HC.out.1.cell (i := 9) rfl
    have d10 := HC.out.1.cell (i := 10) rfl
    have d11 := HC.out.1.cell (i := 11) rfl
    go_wp2_with (go_at_call 31; (with_reducible refine (tr_text t HT.out.1 tf HT.out.2.1 T0 HT.out.2.2 _).mono ?_); rintro e1 V1 ⟨rfl, q3⟩; have HCn := Lib.hid (And.intro (HC.out.1.chg (l := []) (Chg.of_fresh q3) (by simp)) (HC.out.2.trans (q3.mono HC.out.2.size))); clear HC; have HC := HCn; clear HCn q3)
    go_ret
    exact ⟨by rw [← HR.out] <;> rfl, HC.out.2⟩
set_option maxRecDepth 20000 in
set_option maxHeartbeats 16000000 in
theorem rg_print2 (i n t : Int) (b : ByteArray) (e s0 s1 s2 s3 s4 s5 : Int) (hb : b.size ≤ 4000) (hi : Lo.i64 i) (hn : Lo.i64 n) (he : Lo.i64 e) (ht : t ≤ 9223372036854775807) (h0 : s0 ≤ 9223372036854775807) (h1 : Lo.i64 s1) (h3 : Lo.i64 s3) (h4 : Lo.i64 s4) (R : ByteArray) (hR : Le.t (Lo.line ⟨2, i, n, t, b, e, s0, s1, s2, s3, s4, s5⟩) = R) (w : World) :
    Calls Tryz.prog 16 #[.agg #[.int .i64 2, .int .i64 i, .int .i64 n, .int .i64 t, .string b, .int .i64 e, .int .i64 s0, .int .i64 s1, .int .i64 s2, .int .i64 s3, .int .i64 s4, .int .i64 s5]] w fun z w' => z = .returned (.string R) ∧ Below w.heap.size w w' := by
  obtain ⟨NA, hNA⟩ : ∃ x, Le.num i = x := ⟨_, rfl⟩
  obtain ⟨NB, hNB⟩ : ∃ x, Le.num n = x := ⟨_, rfl⟩
  have zA := Lo.num_sz hNA hi
  have zB := Lo.num_sz hNB hn
  have HN := Lib.hid (And.intro hNA (And.intro hNB (And.intro hi hn)))
  have HR : Hid (({ data := #[111, 112, 101, 110] } : ByteArray) ++ (({ data := #[32] } : ByteArray) ++ NA) ++ (({ data := #[32] } : ByteArray) ++ NB) = R) := Lib.hid (by
    rw [← hR]
    refine Le.t_of ?_
    rw [Lo.apl, Lo.apl, Lo.apl, Lo.apl, Lo.sp_num hNA, Lo.sp_num hNB]
    show _ = Lib.join [[111, 112, 101, 110], Lib.itoa i, Lib.itoa n] [32]
    rw [Lo.join_two, Lo.join_two, Lib.join_one]; simp)
  obtain ⟨X, hX⟩ : ∃ X, w.heap.size = X := ⟨_, rfl⟩
  have HB : Hid (Blk (w.alloc (.cells #[.int .i64 2, .int .i64 i, .int .i64 n, .int .i64 t, .string b, .int .i64 e, .int .i64 s0, .int .i64 s1, .int .i64 s2, .int .i64 s3, .int .i64 s4, .int .i64 s5] 26)) X [.int .i64 2, .int .i64 i, .int .i64 n, .int .i64 t, .string b, .int .i64 e, .int .i64 s0, .int .i64 s1, .int .i64 s2, .int .i64 s3, .int .i64 s4, .int .i64 s5] 26 ∧ Below w.heap.size w (w.alloc (.cells #[.int .i64 2, .int .i64 i, .int .i64 n, .int .i64 t, .string b, .int .i64 e, .int .i64 s0, .int .i64 s1, .int .i64 s2, .int .i64 s3, .int .i64 s4, .int .i64 s5] 26))) := Lib.hid ⟨by rw [← hX]; exact Blk.newA _ _ _, (Below.refl _ _).alloc (Nat.le_refl _) _⟩
  clear hNA hNB hi hn he ht h0 h1 h3 h4 hR hb
  go_enter Tryz.func16, Tryz.ntmps16
  go_upto_region 1 with fail
  clear hX
  revert HB
  generalize (w.alloc (.cells #[.int .i64 2, .int .i64 i, .int .i64 n, .int .i64 t, .string b, .int .i64 e, .int .i64 s0, .int .i64 s1, .int .i64 s2, .int .i64 s3, .int .i64 s4, .int .i64 s5] 26)) = W1
  intro HB
  go_cut [3, 4, 5] from 6 to 15 (fun va vb vc wx => va = .string (({ data := #[32] } : ByteArray) ++ NA) ∧ vb = .string (({ data := #[32] } : ByteArray) ++ NB) ∧ ∃ Y, vc = .pointer (some ⟨Y, 0, none⟩) ∧ Hid ((Blk wx X [.int .i64 2, .int .i64 i, .int .i64 n, .int .i64 t, .string b, .int .i64 e, .int .i64 s0, .int .i64 s1, .int .i64 s2, .int .i64 s3, .int .i64 s4, .int .i64 s5] 26 ∧ Below w.heap.size w wx) ∧ Blk wx Y [.int .i64 s0, .int .i64 s1, .int .i64 s2, .int .i64 s3, .int .i64 s4, .int .i64 s5] 24))
  case first =>
    refine wp_region_env (fun env L w' => (∀ j, L j = true → GP X i n (.agg #[.int .i64 s0, .int .i64 s1, .int .i64 s2, .int .i64 s3, .int .i64 s4, .int .i64 s5]) NA NB j (env j)) ∧ (Blk w' X [.int .i64 2, .int .i64 i, .int .i64 n, .int .i64 t, .string b, .int .i64 e, .int .i64 s0, .int .i64 s1, .int .i64 s2, .int .i64 s3, .int .i64 s4, .int .i64 s5] 26 ∧ Below w.heap.size w w') ∧ RP w w' X (L 10) (L 13) (env 10) [.int .i64 0, .int .i64 0, .int .i64 0, .int .i64 0, .int .i64 0, .int .i64 0] [.int .i64 s0, .int .i64 s1, .int .i64 s2, .int .i64 s3, .int .i64 s4, .int .i64 s5] 24) (fun _ => undef) (by kernel_rfl) (by kernel_rfl) (by kernel_rfl) (by kernel_rfl) ?h0 ?hstep ?hend
    case h0 => exact ⟨by simp, ⟨HB.out.1, HB.out.2.drew⟩, by intro h; simp at h⟩
    case hstep =>
      refine ⟨?o0, ?o1, ?o2, ?o3, ?o4, ?o5, ?o6, ?o7, ?o8, ?o9, ?o10, ?o11, ?o12, ?o13, trivial⟩
      case o0 =>
        intro E env L w' hcl hL hp hd ho2 ⟨hG, hK, hR⟩
        have y1 : E.eval (.tmp 1) = .pointer (some ⟨X, 0, none⟩) := ho2 1 (by kernel_rfl)
        refine wp_val (v := .pointer (some ⟨X, 1, none⟩)) (w' := w') ?_ ⟨_, rfl, envG hG rfl, hK, by simpa [upd, doneL] using hR⟩
        simp only [execOp, y1]
        go_simp
        all_goals omega
      case o1 =>
        intro E env L w' hcl hL hp hd ho2 ⟨hG, hK, hR⟩
        have d0 : L 0 = true := hp ⟨0, .data⟩ (by simp) rfl
        have x0 : E.eval (.tmp 6) = _ := (hd 0 6 d0 rfl (by simp)).trans (hG 0 d0)
        have c1 := hK.1.cell (i := 1) rfl
        refine wp_val (v := .int .i64 i) (w' := w') ?_ ⟨_, rfl, envG hG rfl, hK, by simpa [upd, doneL] using hR⟩
        simp only [execOp, x0]
        go_simp
        all_goals omega
      case o2 =>
        intro E env L w' hcl hL hp hd ho2 ⟨hG, hK, hR⟩
        have d1 : L 1 = true := hp ⟨1, .data⟩ (by simp) rfl
        have x1 : E.eval (.tmp 7) = _ := (hd 1 7 d1 rfl (by simp)).trans (hG 1 d1)
        have hKh := Lib.hid hK
        have hRh := Lib.hid hR
        have z1 : E.tmps[7]?.getD undef = .int .i64 i := by simpa [Act.eval, GP] using x1
        have hGh := Lib.hid hG
        clear hK hR hG x1 hd ho2 hcl hp
        unfold Oper.wp
        simp only [execOp]
        go_simp
        (try rw [z1])
        go_at_call 30
        refine (rl_num i HN.out.2.2.1.1 HN.out.2.2.1.2 NA HN.out.1.symm _).mono ?_
        rintro e1 V1 ⟨rfl, q3⟩
        exact ⟨_, rfl, envG hGh.out rfl, ⟨hKh.out.1.chg (l := []) (Chg.of_fresh q3) (by simp), hKh.out.2.trans (q3.mono hKh.out.2.size)⟩, by have h := hRh.out.below q3; simpa [upd, doneL] using h⟩
      case o3 =>
        intro E env L w' hcl hL hp hd ho2 ⟨hG, hK, hR⟩
        have d2 : L 2 = true := hp ⟨2, .data⟩ (by simp) rfl
        have x2 : E.eval (.tmp 8) = _ := (hd 2 8 d2 rfl (by simp)).trans (hG 2 d2)
        refine wp_val (v := .string (({ data := #[32] } : ByteArray) ++ NA)) (w' := w') ?_ ⟨_, rfl, envG hG rfl, hK, by simpa [upd, doneL] using hR⟩
        simp only [execOp, x2]
        go_simp
        all_goals omega
      case o4 =>
        intro E env L w' hcl hL hp hd ho2 ⟨hG, hK, hR⟩
        have y1 : E.eval (.tmp 1) = .pointer (some ⟨X, 0, none⟩) := ho2 1 (by kernel_rfl)
        refine wp_val (v := .pointer (some ⟨X, 2, none⟩)) (w' := w') ?_ ⟨_, rfl, envG hG rfl, hK, by simpa [upd, doneL] using hR⟩
        simp only [execOp, y1]
        go_simp
        all_goals omega
      case o5 =>
        intro E env L w' hcl hL hp hd ho2 ⟨hG, hK, hR⟩
        have d4 : L 4 = true := hp ⟨4, .data⟩ (by simp) rfl
        have x4 : E.eval (.tmp 10) = _ := (hd 4 10 d4 rfl (by simp)).trans (hG 4 d4)
        have c2 := hK.1.cell (i := 2) rfl
        refine wp_val (v := .int .i64 n) (w' := w') ?_ ⟨_, rfl, envG hG rfl, hK, by simpa [upd, doneL] using hR⟩
        simp only [execOp, x4]
        go_simp
        all_goals omega
      case o6 =>
        intro E env L w' hcl hL hp hd ho2 ⟨hG, hK, hR⟩
        have d5 : L 5 = true := hp ⟨5, .data⟩ (by simp) rfl
        have x5 : E.eval (.tmp 11) = _ := (hd 5 11 d5 rfl (by simp)).trans (hG 5 d5)
        have hKh := Lib.hid hK
        have hRh := Lib.hid hR
        have z1 : E.tmps[11]?.getD undef = .int .i64 n := by simpa [Act.eval, GP] using x5
        have hGh := Lib.hid hG
        clear hK hR hG x5 hd ho2 hcl hp
        unfold Oper.wp
        simp only [execOp]
        go_simp
        (try rw [z1])
        go_at_call 30
        refine (rl_num n HN.out.2.2.2.1 HN.out.2.2.2.2 NB HN.out.2.1.symm _).mono ?_
        rintro e1 V1 ⟨rfl, q3⟩
        exact ⟨_, rfl, envG hGh.out rfl, ⟨hKh.out.1.chg (l := []) (Chg.of_fresh q3) (by simp), hKh.out.2.trans (q3.mono hKh.out.2.size)⟩, by have h := hRh.out.below q3; simpa [upd, doneL] using h⟩
      case o7 =>
        intro E env L w' hcl hL hp hd ho2 ⟨hG, hK, hR⟩
        have d6 : L 6 = true := hp ⟨6, .data⟩ (by simp) rfl
        have x6 : E.eval (.tmp 12) = _ := (hd 6 12 d6 rfl (by simp)).trans (hG 6 d6)
        refine wp_val (v := .string (({ data := #[32] } : ByteArray) ++ NB)) (w' := w') ?_ ⟨_, rfl, envG hG rfl, hK, by simpa [upd, doneL] using hR⟩
        simp only [execOp, x6]
        go_simp
        all_goals omega
      case o8 =>
        intro E env L w' hcl hL hp hd ho2 ⟨hG, hK, hR⟩
        have y1 : E.eval (.tmp 1) = .pointer (some ⟨X, 0, none⟩) := ho2 1 (by kernel_rfl)
        refine wp_val (v := .pointer (some ⟨X, 6, none⟩)) (w' := w') ?_ ⟨_, rfl, envG hG rfl, hK, by simpa [upd, doneL] using hR⟩
        simp only [execOp, y1]
        go_simp
        all_goals omega
      case o9 =>
        intro E env L w' hcl hL hp hd ho2 ⟨hG, hK, hR⟩
        have d8 : L 8 = true := hp ⟨8, .data⟩ (by simp) rfl
        have x8 : E.eval (.tmp 14) = _ := (hd 8 14 d8 rfl (by simp)).trans (hG 8 d8)
        have c6 := hK.1.cell (i := 6) rfl
        have c7 := hK.1.cell (i := 7) rfl
        have c8 := hK.1.cell (i := 8) rfl
        have c9 := hK.1.cell (i := 9) rfl
        have c10 := hK.1.cell (i := 10) rfl
        have c11 := hK.1.cell (i := 11) rfl
        refine wp_val (v := .agg #[.int .i64 s0, .int .i64 s1, .int .i64 s2, .int .i64 s3, .int .i64 s4, .int .i64 s5]) (w' := w') ?_ ⟨_, rfl, envG hG rfl, hK, by simpa [upd, doneL] using hR⟩
        simp only [execOp, x8]
        go_simp
        all_goals omega
      case o10 =>
        intro E env L w' hcl hL hp hd ho2 ⟨hG, hK, hR⟩
        have hs := hK.2.size
        have hx := hK.1.lt
        have ka : Below w'.heap.size w' (w'.alloc (.cells #[.int .i64 0, .int .i64 0, .int .i64 0, .int .i64 0, .int .i64 0, .int .i64 0] 24)) := (Below.refl _ _).alloc (Nat.le_refl _) _
        have h13 : L 13 = false := by
          cases h0 : L 13 with
          | false => rfl
          | true =>
            have h1 := hcl 13 _ rfl h0 ⟨10, .data⟩ (by simp) rfl
            exact absurd (h1.symm.trans hL) (by simp)
        refine wp_val (v := .pointer (some ⟨w'.heap.size, 0, none⟩)) (w' := w'.alloc (.cells #[.int .i64 0, .int .i64 0, .int .i64 0, .int .i64 0, .int .i64 0, .int .i64 0] 24)) ?_ ⟨_, rfl, envG hG trivial, ⟨hK.1.chg (l := []) (Chg.of_fresh ka) (by simp), hK.2.trans (ka.mono hK.2.size)⟩, fun _ => ⟨w'.heap.size, by simp [upd], hs, by omega, by simp only [doneL, show (13 : Nat) ≠ 10 by decide, h13]; simpa [h13] using Blk.newA w' #[.int .i64 0, .int .i64 0, .int .i64 0, .int .i64 0, .int .i64 0, .int .i64 0] 24⟩⟩
        simp only [execOp]
        go_simp
      case o11 =>
        intro E env L w' hcl hL hp hd ho2 ⟨hG, hK, hR⟩
        have d3 : L 3 = true := hp ⟨3, .data⟩ (by simp) rfl
        have x3 : E.eval (.tmp 9) = _ := (hd 3 9 d3 rfl (by simp)).trans (hG 3 d3)
        refine wp_val (v := .string (({ data := #[32] } : ByteArray) ++ NA)) (w' := w') ?_ ⟨_, rfl, envG hG rfl, hK, by simpa [upd, doneL] using hR⟩
        simp only [execOp, x3]
        go_simp
        all_goals omega
      case o12 =>
        intro E env L w' hcl hL hp hd ho2 ⟨hG, hK, hR⟩
        have d7 : L 7 = true := hp ⟨7, .data⟩ (by simp) rfl
        have x7 : E.eval (.tmp 13) = _ := (hd 7 13 d7 rfl (by simp)).trans (hG 7 d7)
        refine wp_val (v := .string (({ data := #[32] } : ByteArray) ++ NB)) (w' := w') ?_ ⟨_, rfl, envG hG rfl, hK, by simpa [upd, doneL] using hR⟩
        simp only [execOp, x7]
        go_simp
        all_goals omega
      case o13 =>
        intro E env L w' hcl hL hp hd ho2 ⟨hG, hK, hR⟩
        have d9 : L 9 = true := hp ⟨9, .data⟩ (by simp) rfl
        have x9 : E.eval (.tmp 15) = _ := (hd 9 15 d9 rfl (by simp)).trans (hG 9 d9)
        have d10 : L 10 = true := hp ⟨10, .data⟩ (by simp) rfl
        obtain ⟨Y, e10, hY, hYX, hB⟩ := hR d10
        have x10 : E.eval (.tmp 5) = .pointer (some ⟨Y, 0, none⟩) := (hd 10 5 d10 rfl (by simp)).trans e10
        rw [if_neg (by rw [hL]; simp)] at hB
        have y0 := hB.cell (i := 0) rfl
        have f0 := hB.free 0
        have y1 := hB.cell (i := 1) rfl
        have f1 := hB.free 1
        have y2 := hB.cell (i := 2) rfl
        have f2 := hB.free 2
        have y3 := hB.cell (i := 3) rfl
        have f3 := hB.free 3
        have y4 := hB.cell (i := 4) rfl
        have f4 := hB.free 4
        have y5 := hB.cell (i := 5) rfl
        have f5 := hB.free 5
        have kc : Chg [Y] w' ((((((w'.setCell ⟨Y, 0, none⟩ (.int .i64 s0)).setCell ⟨Y, 1, none⟩ (.int .i64 s1)).setCell ⟨Y, 2, none⟩ (.int .i64 s2)).setCell ⟨Y, 3, none⟩ (.int .i64 s3)).setCell ⟨Y, 4, none⟩ (.int .i64 s4)).setCell ⟨Y, 5, none⟩ (.int .i64 s5)) := (((((((Chg.refl [Y] w').set (Or.inl (List.mem_singleton.2 rfl)) 0 (.int .i64 s0)).set (Or.inl (List.mem_singleton.2 rfl)) 1 (.int .i64 s1)).set (Or.inl (List.mem_singleton.2 rfl)) 2 (.int .i64 s2)).set (Or.inl (List.mem_singleton.2 rfl)) 3 (.int .i64 s3)).set (Or.inl (List.mem_singleton.2 rfl)) 4 (.int .i64 s4)).set (Or.inl (List.mem_singleton.2 rfl)) 5 (.int .i64 s5))
        refine wp_skp (w' := ((((((w'.setCell ⟨Y, 0, none⟩ (.int .i64 s0)).setCell ⟨Y, 1, none⟩ (.int .i64 s1)).setCell ⟨Y, 2, none⟩ (.int .i64 s2)).setCell ⟨Y, 3, none⟩ (.int .i64 s3)).setCell ⟨Y, 4, none⟩ (.int .i64 s4)).setCell ⟨Y, 5, none⟩ (.int .i64 s5))) ?_ ⟨_, rfl, envG hG trivial, ⟨hK.1.chg kc (by simp; omega), kc.onto hK.2 hK.2.size (by simp; omega)⟩, fun _ => ⟨Y, by simpa [upd] using e10, hY, hYX, by simp only [doneL]; exact ((((((hB.set 0 (.int .i64 s0)).set 1 (.int .i64 s1)).set 2 (.int .i64 s2)).set 3 (.int .i64 s3)).set 4 (.int .i64 s4)).set 5 (.int .i64 s5))⟩⟩
        simp only [execOp, x9, x10]
        go_simp
    case hend =>
      intro env w' ⟨hG, hK, hR⟩
      obtain ⟨Y, e10, hY, hYX, hBY⟩ := hR rfl
      rw [if_pos (by simp)] at hBY
      have HZ := Lib.hid (And.intro hK hBY)
      have e11 : env 11 = _ := hG 11 rfl
      have e12 : env 12 = _ := hG 12 rfl
      clear hK hBY hR hG
      simp only [putsE, Act.put, e10, e11, e12, List.setIfInBounds_toArray, List.set_cons_zero, List.set_cons_succ]
      go_wp2_with fail
      go_meet
      exact ⟨rfl, rfl, Y, rfl, HZ⟩
  case rest =>
    obtain ⟨rfl, rfl, Y, rfl, HZ⟩ := hcut
    clear HB
    have HC := Lib.hid HZ.out.1
    have d0 := HC.out.1.cell (i := 0) rfl
    have d1 := HC.out.1.cell (i := 1) rfl
    have d2 := HC.out.1.cell (i := 2) rfl
    have d3 := HC.out.1.cell (i := 3) rfl
    have d4 := HC.out.1.cell (i := 4) rfl
    have d5 := HC.out.1.cell (i := 5) rfl
    have d6 := HC.out.1.cell (i := 6) rfl
    have d7 := HC.out.1.cell (i := 7) rfl
    have d8 := HC.out.1.cell (i := 8) rfl
    have d9 := HC.out.1.cell (i := 9) rfl
    have d10 := HC.out.1.cell (i := 10) rfl
    have d11 := HC.out.1.cell (i := 11) rfl
    go_wp2_with fail
    go_ret
    exact ⟨by rw [← HR.out] <;> rfl, HC.out.2⟩
set_option maxRecDepth 20000 in
set_option maxHeartbeats 16000000 in
theorem rg_print7 (i n t : Int) (b : ByteArray) (e s0 s1 s2 s3 s4 s5 : Int) (hb : b.size ≤ 4000) (hi : Lo.i64 i) (hn : Lo.i64 n) (he : Lo.i64 e) (ht : t ≤ 9223372036854775807) (h0 : s0 ≤ 9223372036854775807) (h1 : Lo.i64 s1) (h3 : Lo.i64 s3) (h4 : Lo.i64 s4) (R : ByteArray) (hR : Le.t (Lo.line ⟨7, i, n, t, b, e, s0, s1, s2, s3, s4, s5⟩) = R) (w : World) :
    Calls Tryz.prog 16 #[.agg #[.int .i64 7, .int .i64 i, .int .i64 n, .int .i64 t, .string b, .int .i64 e, .int .i64 s0, .int .i64 s1, .int .i64 s2, .int .i64 s3, .int .i64 s4, .int .i64 s5]] w fun z w' => z = .returned (.string R) ∧ Below w.heap.size w w' := by
  obtain ⟨NA, hNA⟩ : ∃ x, Le.num i = x := ⟨_, rfl⟩
  obtain ⟨NB, hNB⟩ : ∃ x, Le.num n = x := ⟨_, rfl⟩
  have zA := Lo.num_sz hNA hi
  have zB := Lo.num_sz hNB hn
  have HN := Lib.hid (And.intro hNA (And.intro hNB (And.intro hi hn)))
  obtain ⟨tf, htf⟩ : ∃ n : Nat, Tk.own t = (n : Int) := ⟨(Tk.own t).toNat, by have := Tk.own_nn t; omega⟩
  obtain ⟨T0, hT0⟩ : ∃ x, Le.t (Lo.tt t) = x := ⟨_, rfl⟩
  have hT1 : T0.data.toList = Lo.tt t := by rw [← hT0]; exact Le.t_list _
  have zT : T0.size ≤ 30 := by have h := Lo.tt_len ht; rw [← hT1] at h; exact h
  have HT : Hid (t ≤ 9223372036854775807 ∧ Tk.own t = (tf : Int) ∧ T0.data.toList = Tx.text tf) := Lib.hid ⟨ht, htf, by rw [hT1]; unfold Lo.tt; rw [htf]; rfl⟩
  have HR : Hid (({ data := #[100, 114, 97, 105, 110, 32] } : ByteArray) ++ T0 = R) := Lib.hid (by
    rw [← hR]
    refine Le.t_of ?_
    rw [Lo.apl, hT1]
    show _ = Lib.join [[100, 114, 97, 105, 110], Lo.tt t] [32]
    rw [Lo.join_two, Lib.join_one]; rfl)
  clear htf hT0 hT1
  obtain ⟨X, hX⟩ : ∃ X, w.heap.size = X := ⟨_, rfl⟩
  have HB : Hid (Blk (w.alloc (.cells #[.int .i64 7, .int .i64 i, .int .i64 n, .int .i64 t, .string b, .int .i64 e, .int .i64 s0, .int .i64 s1, .int .i64 s2, .int .i64 s3, .int .i64 s4, .int .i64 s5] 26)) X [.int .i64 7, .int .i64 i, .int .i64 n, .int .i64 t, .string b, .int .i64 e, .int .i64 s0, .int .i64 s1, .int .i64 s2, .int .i64 s3, .int .i64 s4, .int .i64 s5] 26 ∧ Below w.heap.size w (w.alloc (.cells #[.int .i64 7, .int .i64 i, .int .i64 n, .int .i64 t, .string b, .int .i64 e, .int .i64 s0, .int .i64 s1, .int .i64 s2, .int .i64 s3, .int .i64 s4, .int .i64 s5] 26))) := Lib.hid ⟨by rw [← hX]; exact Blk.newA _ _ _, (Below.refl _ _).alloc (Nat.le_refl _) _⟩
  clear hNA hNB hi hn he ht h0 h1 h3 h4 hR hb
  go_enter Tryz.func16, Tryz.ntmps16
  go_upto_region 1 with fail
  clear hX
  revert HB
  generalize (w.alloc (.cells #[.int .i64 7, .int .i64 i, .int .i64 n, .int .i64 t, .string b, .int .i64 e, .int .i64 s0, .int .i64 s1, .int .i64 s2, .int .i64 s3, .int .i64 s4, .int .i64 s5] 26)) = W1
  intro HB
  go_cut [3, 4, 5] from 6 to 15 (fun va vb vc wx => va = .string (({ data := #[32] } : ByteArray) ++ NA) ∧ vb = .string (({ data := #[32] } : ByteArray) ++ NB) ∧ ∃ Y, vc = .pointer (some ⟨Y, 0, none⟩) ∧ Hid ((Blk wx X [.int .i64 7, .int .i64 i, .int .i64 n, .int .i64 t, .string b, .int .i64 e, .int .i64 s0, .int .i64 s1, .int .i64 s2, .int .i64 s3, .int .i64 s4, .int .i64 s5] 26 ∧ Below w.heap.size w wx) ∧ Blk wx Y [.int .i64 s0, .int .i64 s1, .int .i64 s2, .int .i64 s3, .int .i64 s4, .int .i64 s5] 24))
  case first =>
    refine wp_region_env (fun env L w' => (∀ j, L j = true → GP X i n (.agg #[.int .i64 s0, .int .i64 s1, .int .i64 s2, .int .i64 s3, .int .i64 s4, .int .i64 s5]) NA NB j (env j)) ∧ (Blk w' X [.int .i64 7, .int .i64 i, .int .i64 n, .int .i64 t, .string b, .int .i64 e, .int .i64 s0, .int .i64 s1, .int .i64 s2, .int .i64 s3, .int .i64 s4, .int .i64 s5] 26 ∧ Below w.heap.size w w') ∧ RP w w' X (L 10) (L 13) (env 10) [.int .i64 0, .int .i64 0, .int .i64 0, .int .i64 0, .int .i64 0, .int .i64 0] [.int .i64 s0, .int .i64 s1, .int .i64 s2, .int .i64 s3, .int .i64 s4, .int .i64 s5] 24) (fun _ => undef) (by kernel_rfl) (by kernel_rfl) (by kernel_rfl) (by kernel_rfl) ?h0 ?hstep ?hend
    case h0 => exact ⟨by simp, ⟨HB.out.1, HB.out.2.drew⟩, by intro h; simp at h⟩
    case hstep =>
      refine ⟨?o0, ?o1, ?o2, ?o3, ?o4, ?o5, ?o6, ?o7, ?o8, ?o9, ?o10, ?o11, ?o12, ?o13, trivial⟩
      case o0 =>
        intro E env L w' hcl hL hp hd ho2 ⟨hG, hK, hR⟩
        have y1 : E.eval (.tmp 1) = .pointer (some ⟨X, 0, none⟩) := ho2 1 (by kernel_rfl)
        refine wp_val (v := .pointer (some ⟨X, 1, none⟩)) (w' := w') ?_ ⟨_, rfl, envG hG rfl, hK, by simpa [upd, doneL] using hR⟩
        simp only [execOp, y1]
        go_simp
        all_goals omega
      case o1 =>
        intro E env L w' hcl hL hp hd ho2 ⟨hG, hK, hR⟩
        have d0 : L 0 = true := hp ⟨0, .data⟩ (by simp) rfl
        have x0 : E.eval (.tmp 6) = _ := (hd 0 6 d0 rfl (by simp)).trans (hG 0 d0)
        have c1 := hK.1.cell (i := 1) rfl
        refine wp_val (v := .int .i64 i) (w' := w') ?_ ⟨_, rfl, envG hG rfl, hK, by simpa [upd, doneL] using hR⟩
        simp only [execOp, x0]
        go_simp
        all_goals omega
      case o2 =>
        intro E env L w' hcl hL hp hd ho2 ⟨hG, hK, hR⟩
        have d1 : L 1 = true := hp ⟨1, .data⟩ (by simp) rfl
        have x1 : E.eval (.tmp 7) = _ := (hd 1 7 d1 rfl (by simp)).trans (hG 1 d1)
        have hKh := Lib.hid hK
        have hRh := Lib.hid hR
        have z1 : E.tmps[7]?.getD undef = .int .i64 i := by simpa [Act.eval, GP] using x1
        have hGh := Lib.hid hG
        clear hK hR hG x1 hd ho2 hcl hp
        unfold Oper.wp
        simp only [execOp]
        go_simp
        (try rw [z1])
        go_at_call 30
        refine (rl_num i HN.out.2.2.1.1 HN.out.2.2.1.2 NA HN.out.1.symm _).mono ?_
        rintro e1 V1 ⟨rfl, q3⟩
        exact ⟨_, rfl, envG hGh.out rfl, ⟨hKh.out.1.chg (l := []) (Chg.of_fresh q3) (by simp), hKh.out.2.trans (q3.mono hKh.out.2.size)⟩, by have h := hRh.out.below q3; simpa [upd, doneL] using h⟩
      case o3 =>
        intro E env L w' hcl hL hp hd ho2 ⟨hG, hK, hR⟩
        have d2 : L 2 = true := hp ⟨2, .data⟩ (by simp) rfl
        have x2 : E.eval (.tmp 8) = _ := (hd 2 8 d2 rfl (by simp)).trans (hG 2 d2)
        refine wp_val (v := .string (({ data := #[32] } : ByteArray) ++ NA)) (w' := w') ?_ ⟨_, rfl, envG hG rfl, hK, by simpa [upd, doneL] using hR⟩
        simp only [execOp, x2]
        go_simp
        all_goals omega
      case o4 =>
        intro E env L w' hcl hL hp hd ho2 ⟨hG, hK, hR⟩
        have y1 : E.eval (.tmp 1) = .pointer (some ⟨X, 0, none⟩) := ho2 1 (by kernel_rfl)
        refine wp_val (v := .pointer (some ⟨X, 2, none⟩)) (w' := w') ?_ ⟨_, rfl, envG hG rfl, hK, by simpa [upd, doneL] using hR⟩
        simp only [execOp, y1]
        go_simp
        all_goals omega
      case o5 =>
        intro E env L w' hcl hL hp hd ho2 ⟨hG, hK, hR⟩
        have d4 : L 4 = true := hp ⟨4, .data⟩ (by simp) rfl
        have x4 : E.eval (.tmp 10) = _ := (hd 4 10 d4 rfl (by simp)).trans (hG 4 d4)
        have c2 := hK.1.cell (i := 2) rfl
        refine wp_val (v := .int .i64 n) (w' := w') ?_ ⟨_, rfl, envG hG rfl, hK, by simpa [upd, doneL] using hR⟩
        simp only [execOp, x4]
        go_simp
        all_goals omega
      case o6 =>
        intro E env L w' hcl hL hp hd ho2 ⟨hG, hK, hR⟩
        have d5 : L 5 = true := hp ⟨5, .data⟩ (by simp) rfl
        have x5 : E.eval (.tmp 11) = _ := (hd 5 11 d5 rfl (by simp)).trans (hG 5 d5)
        have hKh := Lib.hid hK
        have hRh := Lib.hid hR
        have z1 : E.tmps[11]?.getD undef = .int .i64 n := by simpa [Act.eval, GP] using x5
        have hGh := Lib.hid hG
        clear hK hR hG x5 hd ho2 hcl hp
        unfold Oper.wp
        simp only [execOp]
        go_simp
        (try rw [z1])
        go_at_call 30
        refine (rl_num n HN.out.2.2.2.1 HN.out.2.2.2.2 NB HN.out.2.1.symm _).mono ?_
        rintro e1 V1 ⟨rfl, q3⟩
        exact ⟨_, rfl, envG hGh.out rfl, ⟨hKh.out.1.chg (l := []) (Chg.of_fresh q3) (by simp), hKh.out.2.trans (q3.mono hKh.out.2.size)⟩, by have h := hRh.out.below q3; simpa [upd, doneL] using h⟩
      case o7 =>
        intro E env L w' hcl hL hp hd ho2 ⟨hG, hK, hR⟩
        have d6 : L 6 = true := hp ⟨6, .data⟩ (by simp) rfl
        have x6 : E.eval (.tmp 12) = _ := (hd 6 12 d6 rfl (by simp)).trans (hG 6 d6)
        refine wp_val (v := .string (({ data := #[32] } : ByteArray) ++ NB)) (w' := w') ?_ ⟨_, rfl, envG hG rfl, hK, by simpa [upd, doneL] using hR⟩
        simp only [execOp, x6]
        go_simp
        all_goals omega
      case o8 =>
        intro E env L w' hcl hL hp hd ho2 ⟨hG, hK, hR⟩
        have y1 : E.eval (.tmp 1) = .pointer (some ⟨X, 0, none⟩) := ho2 1 (by kernel_rfl)
        refine wp_val (v := .pointer (some ⟨X, 6, none⟩)) (w' := w') ?_ ⟨_, rfl, envG hG rfl, hK, by simpa [upd, doneL] using hR⟩
        simp only [execOp, y1]
        go_simp
        all_goals omega
      case o9 =>
        intro E env L w' hcl hL hp hd ho2 ⟨hG, hK, hR⟩
        have d8 : L 8 = true := hp ⟨8, .data⟩ (by simp) rfl
        have x8 : E.eval (.tmp 14) = _ := (hd 8 14 d8 rfl (by simp)).trans (hG 8 d8)
        have c6 := hK.1.cell (i := 6) rfl
        have c7 := hK.1.cell (i := 7) rfl
        have c8 := hK.1.cell (i := 8) rfl
        have c9 := hK.1.cell (i := 9) rfl
        have c10 := hK.1.cell (i := 10) rfl
        have c11 := hK.1.cell (i := 11) rfl
        refine wp_val (v := .agg #[.int .i64 s0, .int .i64 s1, .int .i64 s2, .int .i64 s3, .int .i64 s4, .int .i64 s5]) (w' := w') ?_ ⟨_, rfl, envG hG rfl, hK, by simpa [upd, doneL] using hR⟩
        simp only [execOp, x8]
        go_simp
        all_goals omega
      case o10 =>
        intro E env L w' hcl hL hp hd ho2 ⟨hG, hK, hR⟩
        have hs := hK.2.size
        have hx := hK.1.lt
        have ka : Below w'.heap.size w' (w'.alloc (.cells #[.int .i64 0, .int .i64 0, .int .i64 0, .int .i64 0, .int .i64 0, .int .i64 0] 24)) := (Below.refl _ _).alloc (Nat.le_refl _) _
        have h13 : L 13 = false := by
          cases h0 : L 13 with
          | false => rfl
          | true =>
            have h1 := hcl 13 _ rfl h0 ⟨10, .data⟩ (by simp) rfl
            exact absurd (h1.symm.trans hL) (by simp)
        refine wp_val (v := .pointer (some ⟨w'.heap.size, 0, none⟩)) (w' := w'.alloc (.cells #[.int .i64 0, .int .i64 0, .int .i64 0, .int .i64 0, .int .i64 0, .int .i64 0] 24)) ?_ ⟨_, rfl, envG hG trivial, ⟨hK.1.chg (l := []) (Chg.of_fresh ka) (by simp), hK.2.trans (ka.mono hK.2.size)⟩, fun _ => ⟨w'.heap.size, by simp [upd], hs, by omega, by simp only [doneL, show (13 : Nat) ≠ 10 by decide, h13]; simpa [h13] using Blk.newA w' #[.int .i64 0, .int .i64 0, .int .i64 0, .int .i64 0, .int .i64 0, .int .i64 0] 24⟩⟩
        simp only [execOp]
        go_simp
      case o11 =>
        intro E env L w' hcl hL hp hd ho2 ⟨hG, hK, hR⟩
        have d3 : L 3 = true := hp ⟨3, .data⟩ (by simp) rfl
        have x3 : E.eval (.tmp 9) = _ := (hd 3 9 d3 rfl (by simp)).trans (hG 3 d3)
        refine wp_val (v := .string (({ data := #[32] } : ByteArray) ++ NA)) (w' := w') ?_ ⟨_, rfl, envG hG rfl, hK, by simpa [upd, doneL] using hR⟩
        simp only [execOp, x3]
        go_simp
        all_goals omega
      case o12 =>
        intro E env L w' hcl hL hp hd ho2 ⟨hG, hK, hR⟩
        have d7 : L 7 = true := hp ⟨7, .data⟩ (by simp) rfl
        have x7 : E.eval (.tmp 13) = _ := (hd 7 13 d7 rfl (by simp)).trans (hG 7 d7)
        refine wp_val (v := .string (({ data := #[32] } : ByteArray) ++ NB)) (w' := w') ?_ ⟨_, rfl, envG hG rfl, hK, by simpa [upd, doneL] using hR⟩
        simp only [execOp, x7]
        go_simp
        all_goals omega
      case o13 =>
        intro E env L w' hcl hL hp hd ho2 ⟨hG, hK, hR⟩
        have d9 : L 9 = true := hp ⟨9, .data⟩ (by simp) rfl
        have x9 : E.eval (.tmp 15) = _ := (hd 9 15 d9 rfl (by simp)).trans (hG 9 d9)
        have d10 : L 10 = true := hp ⟨10, .data⟩ (by simp) rfl
        obtain ⟨Y, e10, hY, hYX, hB⟩ := hR d10
        have x10 : E.eval (.tmp 5) = .pointer (some ⟨Y, 0, none⟩) := (hd 10 5 d10 rfl (by simp)).trans e10
        rw [if_neg (by rw [hL]; simp)] at hB
        have y0 := hB.cell (i := 0) rfl
        have f0 := hB.free 0
        have y1 := hB.cell (i := 1) rfl
        have f1 := hB.free 1
        have y2 := hB.cell (i := 2) rfl
        have f2 := hB.free 2
        have y3 := hB.cell (i := 3) rfl
        have f3 := hB.free 3
        have y4 := hB.cell (i := 4) rfl
        have f4 := hB.free 4
        have y5 := hB.cell (i := 5) rfl
        have f5 := hB.free 5
        have kc : Chg [Y] w' ((((((w'.setCell ⟨Y, 0, none⟩ (.int .i64 s0)).setCell ⟨Y, 1, none⟩ (.int .i64 s1)).setCell ⟨Y, 2, none⟩ (.int .i64 s2)).setCell ⟨Y, 3, none⟩ (.int .i64 s3)).setCell ⟨Y, 4, none⟩ (.int .i64 s4)).setCell ⟨Y, 5, none⟩ (.int .i64 s5)) := (((((((Chg.refl [Y] w').set (Or.inl (List.mem_singleton.2 rfl)) 0 (.int .i64 s0)).set (Or.inl (List.mem_singleton.2 rfl)) 1 (.int .i64 s1)).set (Or.inl (List.mem_singleton.2 rfl)) 2 (.int .i64 s2)).set (Or.inl (List.mem_singleton.2 rfl)) 3 (.int .i64 s3)).set (Or.inl (List.mem_singleton.2 rfl)) 4 (.int .i64 s4)).set (Or.inl (List.mem_singleton.2 rfl)) 5 (.int .i64 s5))
        refine wp_skp (w' := ((((((w'.setCell ⟨Y, 0, none⟩ (.int .i64 s0)).setCell ⟨Y, 1, none⟩ (.int .i64 s1)).setCell ⟨Y, 2, none⟩ (.int .i64 s2)).setCell ⟨Y, 3, none⟩ (.int .i64 s3)).setCell ⟨Y, 4, none⟩ (.int .i64 s4)).setCell ⟨Y, 5, none⟩ (.int .i64 s5))) ?_ ⟨_, rfl, envG hG trivial, ⟨hK.1.chg kc (by simp; omega), kc.onto hK.2 hK.2.size (by simp; omega)⟩, fun _ => ⟨Y, by simpa [upd] using e10, hY, hYX, by simp only [doneL]; exact ((((((hB.set 0 (.int .i64 s0)).set 1 (.int .i64 s1)).set 2 (.int .i64 s2)).set 3 (.int .i64 s3)).set 4 (.int .i64 s4)).set 5 (.int .i64 s5))⟩⟩
        simp only [execOp, x9, x10]
        go_simp
    case hend =>
      intro env w' ⟨hG, hK, hR⟩
      obtain ⟨Y, e10, hY, hYX, hBY⟩ := hR rfl
      rw [if_pos (by simp)] at hBY
      have HZ := Lib.hid (And.intro hK hBY)
      have e11 : env 11 = _ := hG 11 rfl
      have e12 : env 12 = _ := hG 12 rfl
      clear hK hBY hR hG
      simp only [putsE, Act.put, e10, e11, e12, List.setIfInBounds_toArray, List.set_cons_zero, List.set_cons_succ]
      go_wp2_with fail
      go_meet
      exact ⟨rfl, rfl, Y, rfl, HZ⟩
  case rest =>
    obtain ⟨rfl, rfl, Y, rfl, HZ⟩ := hcut
    clear HB
    have HC := Lib.hid HZ.out.1
    have d0 := HC.out.1.cell (i := 0) rfl
    have d1 := HC.out.1.cell (i := 1) rfl
    have d2 := HC.out.1.cell (i := 2) rfl
    have d3 := HC.out.1.cell (i := 3) rfl
    have d4 := HC.out.1.cell (i := 4) rfl
    have d5 := HC.out.1.cell (i := 5) rfl
    have d6 := HC.out.1.cell (i := 6) rfl
    have d7 := HC.out.1.cell (i := 7) rfl
    have d8 := HC.out.1.cell (i := 8) rfl
    have d9 := HC.out.1.cell (i := 9) rfl
    have d10 := HC.out.1.cell (i := 10) rfl
    have d11 := HC.out.1.cell (i := 11) rfl
    go_wp2_with (go_at_call 31; (with_reducible refine (tr_text t HT.out.1 tf HT.out.2.1 T0 HT.out.2.2 _).mono ?_); rintro e1 V1 ⟨rfl, q3⟩; have HCn := Lib.hid (And.intro (HC.out.1.chg (l := []) (Chg.of_fresh q3) (by simp)) (HC.out.2.trans (q3.mono HC.out.2.size))); clear HC; have HC := HCn; clear HCn q3)
    go_ret
    exact ⟨by rw [← HR.out] <;> rfl, HC.out.2⟩
end Go.Proofs.YtfhhkmjjifbfeaaGreatDoor
/- Log: the document's Print (refusals, bytes). -/
namespace Go.Proofs.YtfhhkmjjifbfeaaGreatDoor
open Go.ChangeShapes Go.WideShapes Go.ChangeAt Go.RowKit
set_option linter.unusedSimpArgs false
set_option linter.unusedVariables false

set_option maxRecDepth 20000 in
set_option maxHeartbeats 16000000 in
theorem rg_print3 (i n t : Int) (b : ByteArray) (e s0 s1 s2 s3 s4 s5 : Int) (hb : b.size ≤ 4000) (hi : Lo.i64 i) (hn : Lo.i64 n) (he : Lo.i64 e) (ht : t ≤ 9223372036854775807) (h0 : s0 ≤ 9223372036854775807) (h1 : Lo.i64 s1) (h3 : Lo.i64 s3) (h4 : Lo.i64 s4) (R : ByteArray) (hR : Le.t (Lo.line ⟨3, i, n, t, b, e, s0, s1, s2, s3, s4, s5⟩) = R) (w : World) :
    Calls Tryz.prog 16 #[.agg #[.int .i64 3, .int .i64 i, .int .i64 n, .int .i64 t, .string b, .int .i64 e, .int .i64 s0, .int .i64 s1, .int .i64 s2, .int .i64 s3, .int .i64 s4, .int .i64 s5]] w fun z w' => z = .returned (.string R) ∧ Below w.heap.size w w' := by
  obtain ⟨NA, hNA⟩ : ∃ x, Le.num i = x := ⟨_, rfl⟩
  obtain ⟨NB, hNB⟩ : ∃ x, Le.num n = x := ⟨_, rfl⟩
  have zA := Lo.num_sz hNA hi
  have zB := Lo.num_sz hNB hn
  have HN := Lib.hid (And.intro hNA (And.intro hNB (And.intro hi hn)))
  obtain ⟨NC, hNC⟩ : ∃ x, Le.num e = x := ⟨_, rfl⟩
  have zC := Lo.num_sz hNC he
  have HE : Hid (Le.num e = NC ∧ -9223372036854775808 ≤ e ∧ e ≤ 9223372036854775807) := Lib.hid ⟨hNC, he.1, he.2⟩
  have HR : Hid (({ data := #[114, 101, 102, 117, 115, 101] } : ByteArray) ++ (({ data := #[32] } : ByteArray) ++ NA) ++ (({ data := #[32] } : ByteArray) ++ NB) ++ ({ data := #[32] } : ByteArray) ++ NC = R) := Lib.hid (by
    rw [← hR]
    refine Le.t_of ?_
    rw [Lo.apl, Lo.apl, Lo.apl, Lo.apl, Lo.apl, Lo.apl, Lo.sp_num hNA, Lo.sp_num hNB, Lo.sp_num hNC]
    show _ = Lib.join [[114, 101, 102, 117, 115, 101], Lib.itoa i, Lib.itoa n, Lib.itoa e] [32]
    rw [Lo.join_two, Lo.join_two, Lo.join_two, Lib.join_one]; simp)
  clear hNC
  obtain ⟨X, hX⟩ : ∃ X, w.heap.size = X := ⟨_, rfl⟩
  have HB : Hid (Blk (w.alloc (.cells #[.int .i64 3, .int .i64 i, .int .i64 n, .int .i64 t, .string b, .int .i64 e, .int .i64 s0, .int .i64 s1, .int .i64 s2, .int .i64 s3, .int .i64 s4, .int .i64 s5] 26)) X [.int .i64 3, .int .i64 i, .int .i64 n, .int .i64 t, .string b, .int .i64 e, .int .i64 s0, .int .i64 s1, .int .i64 s2, .int .i64 s3, .int .i64 s4, .int .i64 s5] 26 ∧ Below w.heap.size w (w.alloc (.cells #[.int .i64 3, .int .i64 i, .int .i64 n, .int .i64 t, .string b, .int .i64 e, .int .i64 s0, .int .i64 s1, .int .i64 s2, .int .i64 s3, .int .i64 s4, .int .i64 s5] 26))) := Lib.hid ⟨by rw [← hX]; exact Blk.newA _ _ _, (Below.refl _ _).alloc (Nat.le_refl _) _⟩
  clear hNA hNB hi hn he ht h0 h1 h3 h4 hR hb
  go_enter Tryz.func16, Tryz.ntmps16
  go_upto_region 1 with fail
  clear hX
  revert HB
  generalize (w.alloc (.cells #[.int .i64 3, .int .i64 i, .int .i64 n, .int .i64 t, .string b, .int .i64 e, .int .i64 s0, .int .i64 s1, .int .i64 s2, .int .i64 s3, .int .i64 s4, .int .i64 s5] 26)) = W1
  intro HB
  go_cut [3, 4, 5] from 6 to 15 (fun va vb vc wx => va = .string (({ data := #[32] } : ByteArray) ++ NA) ∧ vb = .string (({ data := #[32] } : ByteArray) ++ NB) ∧ ∃ Y, vc = .pointer (some ⟨Y, 0, none⟩) ∧ Hid ((Blk wx X [.int .i64 3, .int .i64 i, .int .i64 n, .int .i64 t, .string b, .int .i64 e, .int .i64 s0, .int .i64 s1, .int .i64 s2, .int .i64 s3, .int .i64 s4, .int .i64 s5] 26 ∧ Below w.heap.size w wx) ∧ Blk wx Y [.int .i64 s0, .int .i64 s1, .int .i64 s2, .int .i64 s3, .int .i64 s4, .int .i64 s5] 24))
  case first =>
    refine wp_region_env (fun env L w' => (∀ j, L j = true → GP X i n (.agg #[.int .i64 s0, .int .i64 s1, .int .i64 s2, .int .i64 s3, .int .i64 s4, .int .i64 s5]) NA NB j (env j)) ∧ (Blk w' X [.int .i64 3, .int .i64 i, .int .i64 n, .int .i64 t, .string b, .int .i64 e, .int .i64 s0, .int .i64 s1, .int .i64 s2, .int .i64 s3, .int .i64 s4, .int .i64 s5] 26 ∧ Below w.heap.size w w') ∧ RP w w' X (L 10) (L 13) (env 10) [.int .i64 0, .int .i64 0, .int .i64 0, .int .i64 0, .int .i64 0, .int .i64 0] [.int .i64 s0, .int .i64 s1, .int .i64 s2, .int .i64 s3, .int .i64 s4, .int .i64 s5] 24) (fun _ => undef) (by kernel_rfl) (by kernel_rfl) (by kernel_rfl) (by kernel_rfl) ?h0 ?hstep ?hend
    case h0 => exact ⟨by simp, ⟨HB.out.1, HB.out.2.drew⟩, by intro h; simp at h⟩
    case hstep =>
      refine ⟨?o0, ?o1, ?o2, ?o3, ?o4, ?o5, ?o6, ?o7, ?o8, ?o9, ?o10, ?o11, ?o12, ?o13, trivial⟩
      case o0 =>
        intro E env L w' hcl hL hp hd ho2 ⟨hG, hK, hR⟩
        have y1 : E.eval (.tmp 1) = .pointer (some ⟨X, 0, none⟩) := ho2 1 (by kernel_rfl)
        refine wp_val (v := .pointer (some ⟨X, 1, none⟩)) (w' := w') ?_ ⟨_, rfl, envG hG rfl, hK, by simpa [upd, doneL] using hR⟩
        simp only [execOp, y1]
        go_simp
        all_goals omega
      case o1 =>
        intro E env L w' hcl hL hp hd ho2 ⟨hG, hK, hR⟩
        have d0 : L 0 = true := hp ⟨0, .data⟩ (by simp) rfl
        have x0 : E.eval (.tmp 6) = _ := (hd 0 6 d0 rfl (by simp)).trans (hG 0 d0)
        have c1 := hK.1.cell (i := 1) rfl
        refine wp_val (v := .int .i64 i) (w' := w') ?_ ⟨_, rfl, envG hG rfl, hK, by simpa [upd, doneL] using hR⟩
        simp only [execOp, x0]
        go_simp
        all_goals omega
      case o2 =>
        intro E env L w' hcl hL hp hd ho2 ⟨hG, hK, hR⟩
        have d1 : L 1 = true := hp ⟨1, .data⟩ (by simp) rfl
        have x1 : E.eval (.tmp 7) = _ := (hd 1 7 d1 rfl (by simp)).trans (hG 1 d1)
        have hKh := Lib.hid hK
        have hRh := Lib.hid hR
        have z1 : E.tmps[7]?.getD undef = .int .i64 i := by simpa [Act.eval, GP] using x1
        have hGh := Lib.hid hG
        clear hK hR hG x1 hd ho2 hcl hp
        unfold Oper.wp
        simp only [execOp]
        go_simp
        (try rw [z1])
        go_at_call 30
        refine (rl_num i HN.out.2.2.1.1 HN.out.2.2.1.2 NA HN.out.1.symm _).mono ?_
        rintro e1 V1 ⟨rfl, q3⟩
        exact ⟨_, rfl, envG hGh.out rfl, ⟨hKh.out.1.chg (l := []) (Chg.of_fresh q3) (by simp), hKh.out.2.trans (q3.mono hKh.out.2.size)⟩, by have h := hRh.out.below q3; simpa [upd, doneL] using h⟩
      case o3 =>
        intro E env L w' hcl hL hp hd ho2 ⟨hG, hK, hR⟩
        have d2 : L 2 = true := hp ⟨2, .data⟩ (by simp) rfl
        have x2 : E.eval (.tmp 8) = _ := (hd 2 8 d2 rfl (by simp)).trans (hG 2 d2)
        refine wp_val (v := .string (({ data := #[32] } : ByteArray) ++ NA)) (w' := w') ?_ ⟨_, rfl, envG hG rfl, hK, by simpa [upd, doneL] using hR⟩
        simp only [execOp, x2]
        go_simp
        all_goals omega
      case o4 =>
        intro E env L w' hcl hL hp hd ho2 ⟨hG, hK, hR⟩
        have y1 : E.eval (.tmp 1) = .pointer (some ⟨X, 0, none⟩) := ho2 1 (by kernel_rfl)
        refine wp_val (v := .pointer (some ⟨X, 2, none⟩)) (w' := w') ?_ ⟨_, rfl, envG hG rfl, hK, by simpa [upd, doneL] using hR⟩
        simp only [execOp, y1]
        go_simp
        all_goals omega
      case o5 =>
        intro E env L w' hcl hL hp hd ho2 ⟨hG, hK, hR⟩
        have d4 : L 4 = true := hp ⟨4, .data⟩ (by simp) rfl
        have x4 : E.eval (.tmp 10) = _ := (hd 4 10 d4 rfl (by simp)).trans (hG 4 d4)
        have c2 := hK.1.cell (i := 2) rfl
        refine wp_val (v := .int .i64 n) (w' := w') ?_ ⟨_, rfl, envG hG rfl, hK, by simpa [upd, doneL] using hR⟩
        simp only [execOp, x4]
        go_simp
        all_goals omega
      case o6 =>
        intro E env L w' hcl hL hp hd ho2 ⟨hG, hK, hR⟩
        have d5 : L 5 = true := hp ⟨5, .data⟩ (by simp) rfl
        have x5 : E.eval (.tmp 11) = _ := (hd 5 11 d5 rfl (by simp)).trans (hG 5 d5)
        have hKh := Lib.hid hK
        have hRh := Lib.hid hR
        have z1 : E.tmps[11]?.getD undef = .int .i64 n := by simpa [Act.eval, GP] using x5
        have hGh := Lib.hid hG
        clear hK hR hG x5 hd ho2 hcl hp
        unfold Oper.wp
        simp only [execOp]
        go_simp
        (try rw [z1])
        go_at_call 30
        refine (rl_num n HN.out.2.2.2.1 HN.out.2.2.2.2 NB HN.out.2.1.symm _).mono ?_
        rintro e1 V1 ⟨rfl, q3⟩
        exact ⟨_, rfl, envG hGh.out rfl, ⟨hKh.out.1.chg (l := []) (Chg.of_fresh q3) (by simp), hKh.out.2.trans (q3.mono hKh.out.2.size)⟩, by have h := hRh.out.below q3; simpa [upd, doneL] using h⟩
      case o7 =>
        intro E env L w' hcl hL hp hd ho2 ⟨hG, hK, hR⟩
        have d6 : L 6 = true := hp ⟨6, .data⟩ (by simp) rfl
        have x6 : E.eval (.tmp 12) = _ := (hd 6 12 d6 rfl (by simp)).trans (hG 6 d6)
        refine wp_val (v := .string (({ data := #[32] } : ByteArray) ++ NB)) (w' := w') ?_ ⟨_, rfl, envG hG rfl, hK, by simpa [upd, doneL] using hR⟩
        simp only [execOp, x6]
        go_simp
        all_goals omega
      case o8 =>
        intro E env L w' hcl hL hp hd ho2 ⟨hG, hK, hR⟩
        have y1 : E.eval (.tmp 1) = .pointer (some ⟨X, 0, none⟩) := ho2 1 (by kernel_rfl)
        refine wp_val (v := .pointer (some ⟨X, 6, none⟩)) (w' := w') ?_ ⟨_, rfl, envG hG rfl, hK, by simpa [upd, doneL] using hR⟩
        simp only [execOp, y1]
        go_simp
        all_goals omega
      case o9 =>
        intro E env L w' hcl hL hp hd ho2 ⟨hG, hK, hR⟩
        have d8 : L 8 = true := hp ⟨8, .data⟩ (by simp) rfl
        have x8 : E.eval (.tmp 14) = _ := (hd 8 14 d8 rfl (by simp)).trans (hG 8 d8)
        have c6 := hK.1.cell (i := 6) rfl
        have c7 := hK.1.cell (i := 7) rfl
        have c8 := hK.1.cell (i := 8) rfl
        have c9 := hK.1.cell (i := 9) rfl
        have c10 := hK.1.cell (i := 10) rfl
        have c11 := hK.1.cell (i := 11) rfl
        refine wp_val (v := .agg #[.int .i64 s0, .int .i64 s1, .int .i64 s2, .int .i64 s3, .int .i64 s4, .int .i64 s5]) (w' := w') ?_ ⟨_, rfl, envG hG rfl, hK, by simpa [upd, doneL] using hR⟩
        simp only [execOp, x8]
        go_simp
        all_goals omega
      case o10 =>
        intro E env L w' hcl hL hp hd ho2 ⟨hG, hK, hR⟩
        have hs := hK.2.size
        have hx := hK.1.lt
        have ka : Below w'.heap.size w' (w'.alloc (.cells #[.int .i64 0, .int .i64 0, .int .i64 0, .int .i64 0, .int .i64 0, .int .i64 0] 24)) := (Below.refl _ _).alloc (Nat.le_refl _) _
        have h13 : L 13 = false := by
          cases h0 : L 13 with
          | false => rfl
          | true =>
            have h1 := hcl 13 _ rfl h0 ⟨10, .data⟩ (by simp) rfl
            exact absurd (h1.symm.trans hL) (by simp)
        refine wp_val (v := .pointer (some ⟨w'.heap.size, 0, none⟩)) (w' := w'.alloc (.cells #[.int .i64 0, .int .i64 0, .int .i64 0, .int .i64 0, .int .i64 0, .int .i64 0] 24)) ?_ ⟨_, rfl, envG hG trivial, ⟨hK.1.chg (l := []) (Chg.of_fresh ka) (by simp), hK.2.trans (ka.mono hK.2.size)⟩, fun _ => ⟨w'.heap.size, by simp [upd], hs, by omega, by simp only [doneL, show (13 : Nat) ≠ 10 by decide, h13]; simpa [h13] using Blk.newA w' #[.int .i64 0, .int .i64 0, .int .i64 0, .int .i64 0, .int .i64 0, .int .i64 0] 24⟩⟩
        simp only [execOp]
        go_simp
      case o11 =>
        intro E env L w' hcl hL hp hd ho2 ⟨hG, hK, hR⟩
        have d3 : L 3 = true := hp ⟨3, .data⟩ (by simp) rfl
        have x3 : E.eval (.tmp 9) = _ := (hd 3 9 d3 rfl (by simp)).trans (hG 3 d3)
        refine wp_val (v := .string (({ data := #[32] } : ByteArray) ++ NA)) (w' := w') ?_ ⟨_, rfl, envG hG rfl, hK, by simpa [upd, doneL] using hR⟩
        simp only [execOp, x3]
        go_simp
        all_goals omega
      case o12 =>
        intro E env L w' hcl hL hp hd ho2 ⟨hG, hK, hR⟩
        have d7 : L 7 = true := hp ⟨7, .data⟩ (by simp) rfl
        have x7 : E.eval (.tmp 13) = _ := (hd 7 13 d7 rfl (by simp)).trans (hG 7 d7)
        refine wp_val (v := .string (({ data := #[32] } : ByteArray) ++ NB)) (w' := w') ?_ ⟨_, rfl, envG hG rfl, hK, by simpa [upd, doneL] using hR⟩
        simp only [execOp, x7]
        go_simp
        all_goals omega
      case o13 =>
        intro E env L w' hcl hL hp hd ho2 ⟨hG, hK, hR⟩
        have d9 : L 9 = true := hp ⟨9, .data⟩ (by simp) rfl
        have x9 : E.eval (.tmp 15) = _ := (hd 9 15 d9 rfl (by simp)).trans (hG 9 d9)
        have d10 : L 10 = true := hp ⟨10, .data⟩ (by simp) rfl
        obtain ⟨Y, e10, hY, hYX, hB⟩ := hR d10
        have x10 : E.eval (.tmp 5) = .pointer (some ⟨Y, 0, none⟩) := (hd 10 5 d10 rfl (by simp)).trans e10
        rw [if_neg (by rw [hL]; simp)] at hB
        have y0 := hB.cell (i := 0) rfl
        have f0 := hB.free 0
        have y1 := hB.cell (i := 1) rfl
        have f1 := hB.free 1
        have y2 := hB.cell (i := 2) rfl
        have f2 := hB.free 2
        have y3 := hB.cell (i := 3) rfl
        have f3 := hB.free 3
        have y4 := hB.cell (i := 4) rfl
        have f4 := hB.free 4
        have y5 := hB.cell (i := 5) rfl
        have f5 := hB.free 5
        have kc : Chg [Y] w' ((((((w'.setCell ⟨Y, 0, none⟩ (.int .i64 s0)).setCell ⟨Y, 1, none⟩ (.int .i64 s1)).setCell ⟨Y, 2, none⟩ (.int .i64 s2)).setCell ⟨Y, 3, none⟩ (.int .i64 s3)).setCell ⟨Y, 4, none⟩ (.int .i64 s4)).setCell ⟨Y, 5, none⟩ (.int .i64 s5)) := (((((((Chg.refl [Y] w').set (Or.inl (List.mem_singleton.2 rfl)) 0 (.int .i64 s0)).set (Or.inl (List.mem_singleton.2 rfl)) 1 (.int .i64 s1)).set (Or.inl (List.mem_singleton.2 rfl)) 2 (.int .i64 s2)).set (Or.inl (List.mem_singleton.2 rfl)) 3 (.int .i64 s3)).set (Or.inl (List.mem_singleton.2 rfl)) 4 (.int .i64 s4)).set (Or.inl (List.mem_singleton.2 rfl)) 5 (.int .i64 s5))
        refine wp_skp (w' := ((((((w'.setCell ⟨Y, 0, none⟩ (.int .i64 s0)).setCell ⟨Y, 1, none⟩ (.int .i64 s1)).setCell ⟨Y, 2, none⟩ (.int .i64 s2)).setCell ⟨Y, 3, none⟩ (.int .i64 s3)).setCell ⟨Y, 4, none⟩ (.int .i64 s4)).setCell ⟨Y, 5, none⟩ (.int .i64 s5))) ?_ ⟨_, rfl, envG hG trivial, ⟨hK.1.chg kc (by simp; omega), kc.onto hK.2 hK.2.size (by simp; omega)⟩, fun _ => ⟨Y, by simpa [upd] using e10, hY, hYX, by simp only [doneL]; exact ((((((hB.set 0 (.int .i64 s0)).set 1 (.int .i64 s1)).set 2 (.int .i64 s2)).set 3 (.int .i64 s3)).set 4 (.int .i64 s4)).set 5 (.int .i64 s5))⟩⟩
        simp only [execOp, x9, x10]
        go_simp
    case hend =>
      intro env w' ⟨hG, hK, hR⟩
      obtain ⟨Y, e10, hY, hYX, hBY⟩ := hR rfl
      rw [if_pos (by simp)] at hBY
      have HZ := Lib.hid (And.intro hK hBY)
      have e11 : env 11 = _ := hG 11 rfl
      have e12 : env 12 = _ := hG 12 rfl
      clear hK hBY hR hG
      simp only [putsE, Act.put, e10, e11, e12, List.setIfInBounds_toArray, List.set_cons_zero, List.set_cons_succ]
      go_wp2_with fail
      go_meet
      exact ⟨rfl, rfl, Y, rfl, HZ⟩
  case rest =>
    obtain ⟨rfl, rfl, Y, rfl, HZ⟩ := hcut
    clear HB
    have HC := Lib.hid HZ.out.1
    have d0 := HC.out.1.cell (i := 0) rfl
    have d1 := HC.out.1.cell (i := 1) rfl
    have d2 := HC.out.1.cell (i := 2) rfl
    have d3 := HC.out.1.cell (i := 3) rfl
    have d4 := HC.out.1.cell (i := 4) rfl
    have d5 := HC.out.1.cell (i := 5) rfl
    have d6 := HC.out.1.cell (i := 6) rfl
    have d7 := HC.out.1.cell (i := 7) rfl
    have d8 := HC.out.1.cell (i := 8) rfl
    have d9 := HC.out.1.cell (i := 9) rfl
    have d10 := HC.out.1.cell (i := 10) rfl
    have d11 := HC.out.1.cell (i := 11) rfl
    go_wp2_with (go_at_call 30; (with_reducible refine (rl_num e HE.out.2.1 HE.out.2.2 NC HE.out.1.symm _).mono ?_); rintro e1 V1 ⟨rfl, q3⟩; have HCn := Lib.hid (And.intro (HC.out.1.chg (l := []) (Chg.of_fresh q3) (by simp)) (HC.out.2.trans (q3.mono HC.out.2.size))); clear HC; have HC := HCn; clear HCn q3)
    go_ret
    exact ⟨by rw [← HR.out] <;> rfl, HC.out.2⟩
set_option maxRecDepth 20000 in
set_option maxHeartbeats 16000000 in
theorem rg_print4 (i n t : Int) (b : ByteArray) (e s0 s1 s2 s3 s4 s5 : Int) (hb : b.size ≤ 4000) (hi : Lo.i64 i) (hn : Lo.i64 n) (he : Lo.i64 e) (ht : t ≤ 9223372036854775807) (h0 : s0 ≤ 9223372036854775807) (h1 : Lo.i64 s1) (h3 : Lo.i64 s3) (h4 : Lo.i64 s4) (R : ByteArray) (hR : Le.t (Lo.line ⟨4, i, n, t, b, e, s0, s1, s2, s3, s4, s5⟩) = R) (w : World) :
    Calls Tryz.prog 16 #[.agg #[.int .i64 4, .int .i64 i, .int .i64 n, .int .i64 t, .string b, .int .i64 e, .int .i64 s0, .int .i64 s1, .int .i64 s2, .int .i64 s3, .int .i64 s4, .int .i64 s5]] w fun z w' => z = .returned (.string R) ∧ Below w.heap.size w w' := by
  obtain ⟨NA, hNA⟩ : ∃ x, Le.num i = x := ⟨_, rfl⟩
  obtain ⟨NB, hNB⟩ : ∃ x, Le.num n = x := ⟨_, rfl⟩
  have zA := Lo.num_sz hNA hi
  have zB := Lo.num_sz hNB hn
  have HN := Lib.hid (And.intro hNA (And.intro hNB (And.intro hi hn)))
  obtain ⟨Q0, hQ0⟩ : ∃ x : ByteArray, x.data.toList = Qt.quo b.data.toList := ⟨Le.t _, Le.t_list _⟩
  have zQ : Q0.size ≤ 20000 := by have h := Lo.quo_len b hb; rw [← hQ0] at h; exact h
  have HQ := Lib.hid (And.intro hb hQ0)
  have HR : Hid (({ data := #[114, 101, 97, 100] } : ByteArray) ++ (({ data := #[32] } : ByteArray) ++ NA) ++ ({ data := #[32] } : ByteArray) ++ Q0 = R) := Lib.hid (by
    rw [← hR]
    refine Le.t_of ?_
    rw [Lo.apl, Lo.apl, Lo.apl, Lo.apl, Lo.sp_num hNA, hQ0]
    show _ = Lib.join [[114, 101, 97, 100], Lib.itoa i, Qt.quo b.data.toList] [32]
    rw [Lo.join_two, Lo.join_two, Lib.join_one]; simp)
  clear hQ0
  obtain ⟨X, hX⟩ : ∃ X, w.heap.size = X := ⟨_, rfl⟩
  have HB : Hid (Blk (w.alloc (.cells #[.int .i64 4, .int .i64 i, .int .i64 n, .int .i64 t, .string b, .int .i64 e, .int .i64 s0, .int .i64 s1, .int .i64 s2, .int .i64 s3, .int .i64 s4, .int .i64 s5] 26)) X [.int .i64 4, .int .i64 i, .int .i64 n, .int .i64 t, .string b, .int .i64 e, .int .i64 s0, .int .i64 s1, .int .i64 s2, .int .i64 s3, .int .i64 s4, .int .i64 s5] 26 ∧ Below w.heap.size w (w.alloc (.cells #[.int .i64 4, .int .i64 i, .int .i64 n, .int .i64 t, .string b, .int .i64 e, .int .i64 s0, .int .i64 s1, .int .i64 s2, .int .i64 s3, .int .i64 s4, .int .i64 s5] 26))) := Lib.hid ⟨by rw [← hX]; exact Blk.newA _ _ _, (Below.refl _ _).alloc (Nat.le_refl _) _⟩
  clear hNA hNB hi hn he ht h0 h1 h3 h4 hR hb
  go_enter Tryz.func16, Tryz.ntmps16
  go_upto_region 1 with fail
  clear hX
  revert HB
  generalize (w.alloc (.cells #[.int .i64 4, .int .i64 i, .int .i64 n, .int .i64 t, .string b, .int .i64 e, .int .i64 s0, .int .i64 s1, .int .i64 s2, .int .i64 s3, .int .i64 s4, .int .i64 s5] 26)) = W1
  intro HB
  go_cut [3, 4, 5] from 6 to 15 (fun va vb vc wx => va = .string (({ data := #[32] } : ByteArray) ++ NA) ∧ vb = .string (({ data := #[32] } : ByteArray) ++ NB) ∧ ∃ Y, vc = .pointer (some ⟨Y, 0, none⟩) ∧ Hid ((Blk wx X [.int .i64 4, .int .i64 i, .int .i64 n, .int .i64 t, .string b, .int .i64 e, .int .i64 s0, .int .i64 s1, .int .i64 s2, .int .i64 s3, .int .i64 s4, .int .i64 s5] 26 ∧ Below w.heap.size w wx) ∧ Blk wx Y [.int .i64 s0, .int .i64 s1, .int .i64 s2, .int .i64 s3, .int .i64 s4, .int .i64 s5] 24))
  case first =>
    refine wp_region_env (fun env L w' => (∀ j, L j = true → GP X i n (.agg #[.int .i64 s0, .int .i64 s1, .int .i64 s2, .int .i64 s3, .int .i64 s4, .int .i64 s5]) NA NB j (env j)) ∧ (Blk w' X [.int .i64 4, .int .i64 i, .int .i64 n, .int .i64 t, .string b, .int .i64 e, .int .i64 s0, .int .i64 s1, .int .i64 s2, .int .i64 s3, .int .i64 s4, .int .i64 s5] 26 ∧ Below w.heap.size w w') ∧ RP w w' X (L 10) (L 13) (env 10) [.int .i64 0, .int .i64 0, .int .i64 0, .int .i64 0, .int .i64 0, .int .i64 0] [.int .i64 s0, .int .i64 s1, .int .i64 s2, .int .i64 s3, .int .i64 s4, .int .i64 s5] 24) (fun _ => undef) (by kernel_rfl) (by kernel_rfl) (by kernel_rfl) (by kernel_rfl) ?h0 ?hstep ?hend
    case h0 => exact ⟨by simp, ⟨HB.out.1, HB.out.2.drew⟩, by intro h; simp at h⟩
    case hstep =>
      refine ⟨?o0, ?o1, ?o2, ?o3, ?o4, ?o5, ?o6, ?o7, ?o8, ?o9, ?o10, ?o11, ?o12, ?o13, trivial⟩
      case o0 =>
        intro E env L w' hcl hL hp hd ho2 ⟨hG, hK, hR⟩
        have y1 : E.eval (.tmp 1) = .pointer (some ⟨X, 0, none⟩) := ho2 1 (by kernel_rfl)
        refine wp_val (v := .pointer (some ⟨X, 1, none⟩)) (w' := w') ?_ ⟨_, rfl, envG hG rfl, hK, by simpa [upd, doneL] using hR⟩
        simp only [execOp, y1]
        go_simp
        all_goals omega
      case o1 =>
        intro E env L w' hcl hL hp hd ho2 ⟨hG, hK, hR⟩
        have d0 : L 0 = true := hp ⟨0, .data⟩ (by simp) rfl
        have x0 : E.eval (.tmp 6) = _ := (hd 0 6 d0 rfl (by simp)).trans (hG 0 d0)
        have c1 := hK.1.cell (i := 1) rfl
        refine wp_val (v := .int .i64 i) (w' := w') ?_ ⟨_, rfl, envG hG rfl, hK, by simpa [upd, doneL] using hR⟩
        simp only [execOp, x0]
        go_simp
        all_goals omega
      case o2 =>
        intro E env L w' hcl hL hp hd ho2 ⟨hG, hK, hR⟩
        have d1 : L 1 = true := hp ⟨1, .data⟩ (by simp) rfl
        have x1 : E.eval (.tmp 7) = _ := (hd 1 7 d1 rfl (by simp)).trans (hG 1 d1)
        have hKh := Lib.hid hK
        have hRh := Lib.hid hR
        have z1 : E.tmps[7]?.getD undef = .int .i64 i := by simpa [Act.eval, GP] using x1
        have hGh := Lib.hid hG
        clear hK hR hG x1 hd ho2 hcl hp
        unfold Oper.wp
        simp only [execOp]
        go_simp
        (try rw [z1])
        go_at_call 30
        refine (rl_num i HN.out.2.2.1.1 HN.out.2.2.1.2 NA HN.out.1.symm _).mono ?_
        rintro e1 V1 ⟨rfl, q3⟩
        exact ⟨_, rfl, envG hGh.out rfl, ⟨hKh.out.1.chg (l := []) (Chg.of_fresh q3) (by simp), hKh.out.2.trans (q3.mono hKh.out.2.size)⟩, by have h := hRh.out.below q3; simpa [upd, doneL] using h⟩
      case o3 =>
        intro E env L w' hcl hL hp hd ho2 ⟨hG, hK, hR⟩
        have d2 : L 2 = true := hp ⟨2, .data⟩ (by simp) rfl
        have x2 : E.eval (.tmp 8) = _ := (hd 2 8 d2 rfl (by simp)).trans (hG 2 d2)
        refine wp_val (v := .string (({ data := #[32] } : ByteArray) ++ NA)) (w' := w') ?_ ⟨_, rfl, envG hG rfl, hK, by simpa [upd, doneL] using hR⟩
        simp only [execOp, x2]
        go_simp
        all_goals omega
      case o4 =>
        intro E env L w' hcl hL hp hd ho2 ⟨hG, hK, hR⟩
        have y1 : E.eval (.tmp 1) = .pointer (some ⟨X, 0, none⟩) := ho2 1 (by kernel_rfl)
        refine wp_val (v := .pointer (some ⟨X, 2, none⟩)) (w' := w') ?_ ⟨_, rfl, envG hG rfl, hK, by simpa [upd, doneL] using hR⟩
        simp only [execOp, y1]
        go_simp
        all_goals omega
      case o5 =>
        intro E env L w' hcl hL hp hd ho2 ⟨hG, hK, hR⟩
        have d4 : L 4 = true := hp ⟨4, .data⟩ (by simp) rfl
        have x4 : E.eval (.tmp 10) = _ := (hd 4 10 d4 rfl (by simp)).trans (hG 4 d4)
        have c2 := hK.1.cell (i := 2) rfl
        refine wp_val (v := .int .i64 n) (w' := w') ?_ ⟨_, rfl, envG hG rfl, hK, by simpa [upd, doneL] using hR⟩
        simp only [execOp, x4]
        go_simp
        all_goals omega
      case o6 =>
        intro E env L w' hcl hL hp hd ho2 ⟨hG, hK, hR⟩
        have d5 : L 5 = true := hp ⟨5, .data⟩ (by simp) rfl
        have x5 : E.eval (.tmp 11) = _ := (hd 5 11 d5 rfl (by simp)).trans (hG 5 d5)
        have hKh := Lib.hid hK
        have hRh := Lib.hid hR
        have z1 : E.tmps[11]?.getD undef = .int .i64 n := by simpa [Act.eval, GP] using x5
        have hGh := Lib.hid hG
        clear hK hR hG x5 hd ho2 hcl hp
        unfold Oper.wp
        simp only [execOp]
        go_simp
        (try rw [z1])
        go_at_call 30
        refine (rl_num n HN.out.2.2.2.1 HN.out.2.2.2.2 NB HN.out.2.1.symm _).mono ?_
        rintro e1 V1 ⟨rfl, q3⟩
        exact ⟨_, rfl, envG hGh.out rfl, ⟨hKh.out.1.chg (l := []) (Chg.of_fresh q3) (by simp), hKh.out.2.trans (q3.mono hKh.out.2.size)⟩, by have h := hRh.out.below q3; simpa [upd, doneL] using h⟩
      case o7 =>
        intro E env L w' hcl hL hp hd ho2 ⟨hG, hK, hR⟩
        have d6 : L 6 = true := hp ⟨6, .data⟩ (by simp) rfl
        have x6 : E.eval (.tmp 12) = _ := (hd 6 12 d6 rfl (by simp)).trans (hG 6 d6)
        refine wp_val (v := .string (({ data := #[32] } : ByteArray) ++ NB)) (w' := w') ?_ ⟨_, rfl, envG hG rfl, hK, by simpa [upd, doneL] using hR⟩
        simp only [execOp, x6]
        go_simp
        all_goals omega
      case o8 =>
        intro E env L w' hcl hL hp hd ho2 ⟨hG, hK, hR⟩
        have y1 : E.eval (.tmp 1) = .pointer (some ⟨X, 0, none⟩) := ho2 1 (by kernel_rfl)
        refine wp_val (v := .pointer (some ⟨X, 6, none⟩)) (w' := w') ?_ ⟨_, rfl, envG hG rfl, hK, by simpa [upd, doneL] using hR⟩
        simp only [execOp, y1]
        go_simp
        all_goals omega
      case o9 =>
        intro E env L w' hcl hL hp hd ho2 ⟨hG, hK, hR⟩
        have d8 : L 8 = true := hp ⟨8, .data⟩ (by simp) rfl
        have x8 : E.eval (.tmp 14) = _ := (hd 8 14 d8 rfl (by simp)).trans (hG 8 d8)
        have c6 := hK.1.cell (i := 6) rfl
        have c7 := hK.1.cell (i := 7) rfl
        have c8 := hK.1.cell (i := 8) rfl
        have c9 := hK.1.cell (i := 9) rfl
        have c10 := hK.1.cell (i := 10) rfl
        have c11 := hK.1.cell (i := 11) rfl
        refine wp_val (v := .agg #[.int .i64 s0, .int .i64 s1, .int .i64 s2, .int .i64 s3, .int .i64 s4, .int .i64 s5]) (w' := w') ?_ ⟨_, rfl, envG hG rfl, hK, by simpa [upd, doneL] using hR⟩
        simp only [execOp, x8]
        go_simp
        all_goals omega
      case o10 =>
        intro E env L w' hcl hL hp hd ho2 ⟨hG, hK, hR⟩
        have hs := hK.2.size
        have hx := hK.1.lt
        have ka : Below w'.heap.size w' (w'.alloc (.cells #[.int .i64 0, .int .i64 0, .int .i64 0, .int .i64 0, .int .i64 0, .int .i64 0] 24)) := (Below.refl _ _).alloc (Nat.le_refl _) _
        have h13 : L 13 = false := by
          cases h0 : L 13 with
          | false => rfl
          | true =>
            have h1 := hcl 13 _ rfl h0 ⟨10, .data⟩ (by simp) rfl
            exact absurd (h1.symm.trans hL) (by simp)
        refine wp_val (v := .pointer (some ⟨w'.heap.size, 0, none⟩)) (w' := w'.alloc (.cells #[.int .i64 0, .int .i64 0, .int .i64 0, .int .i64 0, .int .i64 0, .int .i64 0] 24)) ?_ ⟨_, rfl, envG hG trivial, ⟨hK.1.chg (l := []) (Chg.of_fresh ka) (by simp), hK.2.trans (ka.mono hK.2.size)⟩, fun _ => ⟨w'.heap.size, by simp [upd], hs, by omega, by simp only [doneL, show (13 : Nat) ≠ 10 by decide, h13]; simpa [h13] using Blk.newA w' #[.int .i64 0, .int .i64 0, .int .i64 0, .int .i64 0, .int .i64 0, .int .i64 0] 24⟩⟩
        simp only [execOp]
        go_simp
      case o11 =>
        intro E env L w' hcl hL hp hd ho2 ⟨hG, hK, hR⟩
        have d3 : L 3 = true := hp ⟨3, .data⟩ (by simp) rfl
        have x3 : E.eval (.tmp 9) = _ := (hd 3 9 d3 rfl (by simp)).trans (hG 3 d3)
        refine wp_val (v := .string (({ data := #[32] } : ByteArray) ++ NA)) (w' := w') ?_ ⟨_, rfl, envG hG rfl, hK, by simpa [upd, doneL] using hR⟩
        simp only [execOp, x3]
        go_simp
        all_goals omega
      case o12 =>
        intro E env L w' hcl hL hp hd ho2 ⟨hG, hK, hR⟩
        have d7 : L 7 = true := hp ⟨7, .data⟩ (by simp) rfl
        have x7 : E.eval (.tmp 13) = _ := (hd 7 13 d7 rfl (by simp)).trans (hG 7 d7)
        refine wp_val (v := .string (({ data := #[32] } : ByteArray) ++ NB)) (w' := w') ?_ ⟨_, rfl, envG hG rfl, hK, by simpa [upd, doneL] using hR⟩
        simp only [execOp, x7]
        go_simp
        all_goals omega
      case o13 =>
        intro E env L w' hcl hL hp hd ho2 ⟨hG, hK, hR⟩
        have d9 : L 9 = true := hp ⟨9, .data⟩ (by simp) rfl
        have x9 : E.eval (.tmp 15) = _ := (hd 9 15 d9 rfl (by simp)).trans (hG 9 d9)
        have d10 : L 10 = true := hp ⟨10, .data⟩ (by simp) rfl
        obtain ⟨Y, e10, hY, hYX, hB⟩ := hR d10
        have x10 : E.eval (.tmp 5) = .pointer (some ⟨Y, 0, none⟩) := (hd 10 5 d10 rfl (by simp)).trans e10
        rw [if_neg (by rw [hL]; simp)] at hB
        have y0 := hB.cell (i := 0) rfl
        have f0 := hB.free 0
        have y1 := hB.cell (i := 1) rfl
        have f1 := hB.free 1
        have y2 := hB.cell (i := 2) rfl
        have f2 := hB.free 2
        have y3 := hB.cell (i := 3) rfl
        have f3 := hB.free 3
        have y4 := hB.cell (i := 4) rfl
        have f4 := hB.free 4
        have y5 := hB.cell (i := 5) rfl
        have f5 := hB.free 5
        have kc : Chg [Y] w' ((((((w'.setCell ⟨Y, 0, none⟩ (.int .i64 s0)).setCell ⟨Y, 1, none⟩ (.int .i64 s1)).setCell ⟨Y, 2, none⟩ (.int .i64 s2)).setCell ⟨Y, 3, none⟩ (.int .i64 s3)).setCell ⟨Y, 4, none⟩ (.int .i64 s4)).setCell ⟨Y, 5, none⟩ (.int .i64 s5)) := (((((((Chg.refl [Y] w').set (Or.inl (List.mem_singleton.2 rfl)) 0 (.int .i64 s0)).set (Or.inl (List.mem_singleton.2 rfl)) 1 (.int .i64 s1)).set (Or.inl (List.mem_singleton.2 rfl)) 2 (.int .i64 s2)).set (Or.inl (List.mem_singleton.2 rfl)) 3 (.int .i64 s3)).set (Or.inl (List.mem_singleton.2 rfl)) 4 (.int .i64 s4)).set (Or.inl (List.mem_singleton.2 rfl)) 5 (.int .i64 s5))
        refine wp_skp (w' := ((((((w'.setCell ⟨Y, 0, none⟩ (.int .i64 s0)).setCell ⟨Y, 1, none⟩ (.int .i64 s1)).setCell ⟨Y, 2, none⟩ (.int .i64 s2)).setCell ⟨Y, 3, none⟩ (.int .i64 s3)).setCell ⟨Y, 4, none⟩ (.int .i64 s4)).setCell ⟨Y, 5, none⟩ (.int .i64 s5))) ?_ ⟨_, rfl, envG hG trivial, ⟨hK.1.chg kc (by simp; omega), kc.onto hK.2 hK.2.size (by simp; omega)⟩, fun _ => ⟨Y, by simpa [upd] using e10, hY, hYX, by simp only [doneL]; exact ((((((hB.set 0 (.int .i64 s0)).set 1 (.int .i64 s1)).set 2 (.int .i64 s2)).set 3 (.int .i64 s3)).set 4 (.int .i64 s4)).set 5 (.int .i64 s5))⟩⟩
        simp only [execOp, x9, x10]
        go_simp
    case hend =>
      intro env w' ⟨hG, hK, hR⟩
      obtain ⟨Y, e10, hY, hYX, hBY⟩ := hR rfl
      rw [if_pos (by simp)] at hBY
      have HZ := Lib.hid (And.intro hK hBY)
      have e11 : env 11 = _ := hG 11 rfl
      have e12 : env 12 = _ := hG 12 rfl
      clear hK hBY hR hG
      simp only [putsE, Act.put, e10, e11, e12, List.setIfInBounds_toArray, List.set_cons_zero, List.set_cons_succ]
      go_wp2_with fail
      go_meet
      exact ⟨rfl, rfl, Y, rfl, HZ⟩
  case rest =>
    obtain ⟨rfl, rfl, Y, rfl, HZ⟩ := hcut
    clear HB
    have HC := Lib.hid HZ.out.1
    have d0 := HC.out.1.cell (i := 0) rfl
    have d1 := HC.out.1.cell (i := 1) rfl
    have d2 := HC.out.1.cell (i := 2) rfl
    have d3 := HC.out.1.cell (i := 3) rfl
    have d4 := HC.out.1.cell (i := 4) rfl
    have d5 := HC.out.1.cell (i := 5) rfl
    have d6 := HC.out.1.cell (i := 6) rfl
    have d7 := HC.out.1.cell (i := 7) rfl
    have d8 := HC.out.1.cell (i := 8) rfl
    have d9 := HC.out.1.cell (i := 9) rfl
    have d10 := HC.out.1.cell (i := 10) rfl
    have d11 := HC.out.1.cell (i := 11) rfl
    go_wp2_with (go_at_call 32; (with_reducible refine (qr_quote b Q0 HQ.out.1 HQ.out.2 _).mono ?_); rintro e1 V1 ⟨rfl, q3⟩; have HCn := Lib.hid (And.intro (HC.out.1.chg (l := []) (Chg.of_fresh q3) (by simp)) (HC.out.2.trans (q3.mono HC.out.2.size))); clear HC; have HC := HCn; clear HCn q3)
    go_ret
    exact ⟨by rw [← HR.out] <;> rfl, HC.out.2⟩
set_option maxRecDepth 20000 in
set_option maxHeartbeats 16000000 in
theorem rg_print6 (i n t : Int) (b : ByteArray) (e s0 s1 s2 s3 s4 s5 : Int) (hb : b.size ≤ 4000) (hi : Lo.i64 i) (hn : Lo.i64 n) (he : Lo.i64 e) (ht : t ≤ 9223372036854775807) (h0 : s0 ≤ 9223372036854775807) (h1 : Lo.i64 s1) (h3 : Lo.i64 s3) (h4 : Lo.i64 s4) (R : ByteArray) (hR : Le.t (Lo.line ⟨6, i, n, t, b, e, s0, s1, s2, s3, s4, s5⟩) = R) (w : World) :
    Calls Tryz.prog 16 #[.agg #[.int .i64 6, .int .i64 i, .int .i64 n, .int .i64 t, .string b, .int .i64 e, .int .i64 s0, .int .i64 s1, .int .i64 s2, .int .i64 s3, .int .i64 s4, .int .i64 s5]] w fun z w' => z = .returned (.string R) ∧ Below w.heap.size w w' := by
  obtain ⟨NA, hNA⟩ : ∃ x, Le.num i = x := ⟨_, rfl⟩
  obtain ⟨NB, hNB⟩ : ∃ x, Le.num n = x := ⟨_, rfl⟩
  have zA := Lo.num_sz hNA hi
  have zB := Lo.num_sz hNB hn
  have HN := Lib.hid (And.intro hNA (And.intro hNB (And.intro hi hn)))
  obtain ⟨Q0, hQ0⟩ : ∃ x : ByteArray, x.data.toList = Qt.quo b.data.toList := ⟨Le.t _, Le.t_list _⟩
  have zQ : Q0.size ≤ 20000 := by have h := Lo.quo_len b hb; rw [← hQ0] at h; exact h
  have HQ := Lib.hid (And.intro hb hQ0)
  have HR : Hid (({ data := #[119, 114, 105, 116, 101] } : ByteArray) ++ (({ data := #[32] } : ByteArray) ++ NA) ++ ({ data := #[32] } : ByteArray) ++ Q0 = R) := Lib.hid (by
    rw [← hR]
    refine Le.t_of ?_
    rw [Lo.apl, Lo.apl, Lo.apl, Lo.apl, Lo.sp_num hNA, hQ0]
    show _ = Lib.join [[119, 114, 105, 116, 101], Lib.itoa i, Qt.quo b.data.toList] [32]
    rw [Lo.join_two, Lo.join_two, Lib.join_one]; simp)
  clear hQ0
  obtain ⟨X, hX⟩ : ∃ X, w.heap.size = X := ⟨_, rfl⟩
  have HB : Hid (Blk (w.alloc (.cells #[.int .i64 6, .int .i64 i, .int .i64 n, .int .i64 t, .string b, .int .i64 e, .int .i64 s0, .int .i64 s1, .int .i64 s2, .int .i64 s3, .int .i64 s4, .int .i64 s5] 26)) X [.int .i64 6, .int .i64 i, .int .i64 n, .int .i64 t, .string b, .int .i64 e, .int .i64 s0, .int .i64 s1, .int .i64 s2, .int .i64 s3, .int .i64 s4, .int .i64 s5] 26 ∧ Below w.heap.size w (w.alloc (.cells #[.int .i64 6, .int .i64 i, .int .i64 n, .int .i64 t, .string b, .int .i64 e, .int .i64 s0, .int .i64 s1, .int .i64 s2, .int .i64 s3, .int .i64 s4, .int .i64 s5] 26))) := Lib.hid ⟨by rw [← hX]; exact Blk.newA _ _ _, (Below.refl _ _).alloc (Nat.le_refl _) _⟩
  clear hNA hNB hi hn he ht h0 h1 h3 h4 hR hb
  go_enter Tryz.func16, Tryz.ntmps16
  go_upto_region 1 with fail
  clear hX
  revert HB
  generalize (w.alloc (.cells #[.int .i64 6, .int .i64 i, .int .i64 n, .int .i64 t, .string b, .int .i64 e, .int .i64 s0, .int .i64 s1, .int .i64 s2, .int .i64 s3, .int .i64 s4, .int .i64 s5] 26)) = W1
  intro HB
  go_cut [3, 4, 5] from 6 to 15 (fun va vb vc wx => va = .string (({ data := #[32] } : ByteArray) ++ NA) ∧ vb = .string (({ data := #[32] } : ByteArray) ++ NB) ∧ ∃ Y, vc = .pointer (some ⟨Y, 0, none⟩) ∧ Hid ((Blk wx X [.int .i64 6, .int .i64 i, .int .i64 n, .int .i64 t, .string b, .int .i64 e, .int .i64 s0, .int .i64 s1, .int .i64 s2, .int .i64 s3, .int .i64 s4, .int .i64 s5] 26 ∧ Below w.heap.size w wx) ∧ Blk wx Y [.int .i64 s0, .int .i64 s1, .int .i64 s2, .int .i64 s3, .int .i64 s4, .int .i64 s5] 24))
  case first =>
    refine wp_region_env (fun env L w' => (∀ j, L j = true → GP X i n (.agg #[.int .i64 s0, .int .i64 s1, .int .i64 s2, .int .i64 s3, .int .i64 s4, .int .i64 s5]) NA NB j (env j)) ∧ (Blk w' X [.int .i64 6, .int .i64 i, .int .i64 n, .int .i64 t, .string b, .int .i64 e, .int .i64 s0, .int .i64 s1, .int .i64 s2, .int .i64 s3, .int .i64 s4, .int .i64 s5] 26 ∧ Below w.heap.size w w') ∧ RP w w' X (L 10) (L 13) (env 10) [.int .i64 0, .int .i64 0, .int .i64 0, .int .i64 0, .int .i64 0, .int .i64 0] [.int .i64 s0, .int .i64 s1, .int .i64 s2, .int .i64 s3, .int .i64 s4, .int .i64 s5] 24) (fun _ => undef) (by kernel_rfl) (by kernel_rfl) (by kernel_rfl) (by kernel_rfl) ?h0 ?hstep ?hend
    case h0 => exact ⟨by simp, ⟨HB.out.1, HB.out.2.drew⟩, by intro h; simp at h⟩
    case hstep =>
      refine ⟨?o0, ?o1, ?o2, ?o3, ?o4, ?o5, ?o6, ?o7, ?o8, ?o9, ?o10, ?o11, ?o12, ?o13, trivial⟩
      case o0 =>
        intro E env L w' hcl hL hp hd ho2 ⟨hG, hK, hR⟩
        have y1 : E.eval (.tmp 1) = .pointer (some ⟨X, 0, none⟩) := ho2 1 (by kernel_rfl)
        refine wp_val (v := .pointer (some ⟨X, 1, none⟩)) (w' := w') ?_ ⟨_, rfl, envG hG rfl, hK, by simpa [upd, doneL] using hR⟩
        simp only [execOp, y1]
        go_simp
        all_goals omega
      case o1 =>
        intro E env L w' hcl hL hp hd ho2 ⟨hG, hK, hR⟩
        have d0 : L 0 = true := hp ⟨0, .data⟩ (by simp) rfl
        have x0 : E.eval (.tmp 6) = _ := (hd 0 6 d0 rfl (by simp)).trans (hG 0 d0)
        have c1 := hK.1.cell (i := 1) rfl
        refine wp_val (v := .int .i64 i) (w' := w') ?_ ⟨_, rfl, envG hG rfl, hK, by simpa [upd, doneL] using hR⟩
        simp only [execOp, x0]
        go_simp
        all_goals omega
      case o2 =>
        intro E env L w' hcl hL hp hd ho2 ⟨hG, hK, hR⟩
        have d1 : L 1 = true := hp ⟨1, .data⟩ (by simp) rfl
        have x1 : E.eval (.tmp 7) = _ := (hd 1 7 d1 rfl (by simp)).trans (hG 1 d1)
        have hKh := Lib.hid hK
        have hRh := Lib.hid hR
        have z1 : E.tmps[7]?.getD undef = .int .i64 i := by simpa [Act.eval, GP] using x1
        have hGh := Lib.hid hG
        clear hK hR hG x1 hd ho2 hcl hp
        unfold Oper.wp
        simp only [execOp]
        go_simp
        (try rw [z1])
        go_at_call 30
        refine (rl_num i HN.out.2.2.1.1 HN.out.2.2.1.2 NA HN.out.1.symm _).mono ?_
        rintro e1 V1 ⟨rfl, q3⟩
        exact ⟨_, rfl, envG hGh.out rfl, ⟨hKh.out.1.chg (l := []) (Chg.of_fresh q3) (by simp), hKh.out.2.trans (q3.mono hKh.out.2.size)⟩, by have h := hRh.out.below q3; simpa [upd, doneL] using h⟩
      case o3 =>
        intro E env L w' hcl hL hp hd ho2 ⟨hG, hK, hR⟩
        have d2 : L 2 = true := hp ⟨2, .data⟩ (by simp) rfl
        have x2 : E.eval (.tmp 8) = _ := (hd 2 8 d2 rfl (by simp)).trans (hG 2 d2)
        refine wp_val (v := .string (({ data := #[32] } : ByteArray) ++ NA)) (w' := w') ?_ ⟨_, rfl, envG hG rfl, hK, by simpa [upd, doneL] using hR⟩
        simp only [execOp, x2]
        go_simp
        all_goals omega
      case o4 =>
        intro E env L w' hcl hL hp hd ho2 ⟨hG, hK, hR⟩
        have y1 : E.eval (.tmp 1) = .pointer (some ⟨X, 0, none⟩) := ho2 1 (by kernel_rfl)
        refine wp_val (v := .pointer (some ⟨X, 2, none⟩)) (w' := w') ?_ ⟨_, rfl, envG hG rfl, hK, by simpa [upd, doneL] using hR⟩
        simp only [execOp, y1]
        go_simp
        all_goals omega
      case o5 =>
        intro E env L w' hcl hL hp hd ho2 ⟨hG, hK, hR⟩
        have d4 : L 4 = true := hp ⟨4, .data⟩ (by simp) rfl
        have x4 : E.eval (.tmp 10) = _ := (hd 4 10 d4 rfl (by simp)).trans (hG 4 d4)
        have c2 := hK.1.cell (i := 2) rfl
        refine wp_val (v := .int .i64 n) (w' := w') ?_ ⟨_, rfl, envG hG rfl, hK, by simpa [upd, doneL] using hR⟩
        simp only [execOp, x4]
        go_simp
        all_goals omega
      case o6 =>
        intro E env L w' hcl hL hp hd ho2 ⟨hG, hK, hR⟩
        have d5 : L 5 = true := hp ⟨5, .data⟩ (by simp) rfl
        have x5 : E.eval (.tmp 11) = _ := (hd 5 11 d5 rfl (by simp)).trans (hG 5 d5)
        have hKh := Lib.hid hK
        have hRh := Lib.hid hR
        have z1 : E.tmps[11]?.getD undef = .int .i64 n := by simpa [Act.eval, GP] using x5
        have hGh := Lib.hid hG
        clear hK hR hG x5 hd ho2 hcl hp
        unfold Oper.wp
        simp only [execOp]
        go_simp
        (try rw [z1])
        go_at_call 30
        refine (rl_num n HN.out.2.2.2.1 HN.out.2.2.2.2 NB HN.out.2.1.symm _).mono ?_
        rintro e1 V1 ⟨rfl, q3⟩
        exact ⟨_, rfl, envG hGh.out rfl, ⟨hKh.out.1.chg (l := []) (Chg.of_fresh q3) (by simp), hKh.out.2.trans (q3.mono hKh.out.2.size)⟩, by have h := hRh.out.below q3; simpa [upd, doneL] using h⟩
      case o7 =>
        intro E env L w' hcl hL hp hd ho2 ⟨hG, hK, hR⟩
        have d6 : L 6 = true := hp ⟨6, .data⟩ (by simp) rfl
        have x6 : E.eval (.tmp 12) = _ := (hd 6 12 d6 rfl (by simp)).trans (hG 6 d6)
        refine wp_val (v := .string (({ data := #[32] } : ByteArray) ++ NB)) (w' := w') ?_ ⟨_, rfl, envG hG rfl, hK, by simpa [upd, doneL] using hR⟩
        simp only [execOp, x6]
        go_simp
        all_goals omega
      case o8 =>
        intro E env L w' hcl hL hp hd ho2 ⟨hG, hK, hR⟩
        have y1 : E.eval (.tmp 1) = .pointer (some ⟨X, 0, none⟩) := ho2 1 (by kernel_rfl)
        refine wp_val (v := .pointer (some ⟨X, 6, none⟩)) (w' := w') ?_ ⟨_, rfl, envG hG rfl, hK, by simpa [upd, doneL] using hR⟩
        simp only [execOp, y1]
        go_simp
        all_goals omega
      case o9 =>
        intro E env L w' hcl hL hp hd ho2 ⟨hG, hK, hR⟩
        have d8 : L 8 = true := hp ⟨8, .data⟩ (by simp) rfl
        have x8 : E.eval (.tmp 14) = _ := (hd 8 14 d8 rfl (by simp)).trans (hG 8 d8)
        have c6 := hK.1.cell (i := 6) rfl
        have c7 := hK.1.cell (i := 7) rfl
        have c8 := hK.1.cell (i := 8) rfl
        have c9 := hK.1.cell (i := 9) rfl
        have c10 := hK.1.cell (i := 10) rfl
        have c11 := hK.1.cell (i := 11) rfl
        refine wp_val (v := .agg #[.int .i64 s0, .int .i64 s1, .int .i64 s2, .int .i64 s3, .int .i64 s4, .int .i64 s5]) (w' := w') ?_ ⟨_, rfl, envG hG rfl, hK, by simpa [upd, doneL] using hR⟩
        simp only [execOp, x8]
        go_simp
        all_goals omega
      case o10 =>
        intro E env L w' hcl hL hp hd ho2 ⟨hG, hK, hR⟩
        have hs := hK.2.size
        have hx := hK.1.lt
        have ka : Below w'.heap.size w' (w'.alloc (.cells #[.int .i64 0, .int .i64 0, .int .i64 0, .int .i64 0, .int .i64 0, .int .i64 0] 24)) := (Below.refl _ _).alloc (Nat.le_refl _) _
        have h13 : L 13 = false := by
          cases h0 : L 13 with
          | false => rfl
          | true =>
            have h1 := hcl 13 _ rfl h0 ⟨10, .data⟩ (by simp) rfl
            exact absurd (h1.symm.trans hL) (by simp)
        refine wp_val (v := .pointer (some ⟨w'.heap.size, 0, none⟩)) (w' := w'.alloc (.cells #[.int .i64 0, .int .i64 0, .int .i64 0, .int .i64 0, .int .i64 0, .int .i64 0] 24)) ?_ ⟨_, rfl, envG hG trivial, ⟨hK.1.chg (l := []) (Chg.of_fresh ka) (by simp), hK.2.trans (ka.mono hK.2.size)⟩, fun _ => ⟨w'.heap.size, by simp [upd], hs, by omega, by simp only [doneL, show (13 : Nat) ≠ 10 by decide, h13]; simpa [h13] using Blk.newA w' #[.int .i64 0, .int .i64 0, .int .i64 0, .int .i64 0, .int .i64 0, .int .i64 0] 24⟩⟩
        simp only [execOp]
        go_simp
      case o11 =>
        intro E env L w' hcl hL hp hd ho2 ⟨hG, hK, hR⟩
        have d3 : L 3 = true := hp ⟨3, .data⟩ (by simp) rfl
        have x3 : E.eval (.tmp 9) = _ := (hd 3 9 d3 rfl (by simp)).trans (hG 3 d3)
        refine wp_val (v := .string (({ data := #[32] } : ByteArray) ++ NA)) (w' := w') ?_ ⟨_, rfl, envG hG rfl, hK, by simpa [upd, doneL] using hR⟩
        simp only [execOp, x3]
        go_simp
        all_goals omega
      case o12 =>
        intro E env L w' hcl hL hp hd ho2 ⟨hG, hK, hR⟩
        have d7 : L 7 = true := hp ⟨7, .data⟩ (by simp) rfl
        have x7 : E.eval (.tmp 13) = _ := (hd 7 13 d7 rfl (by simp)).trans (hG 7 d7)
        refine wp_val (v := .string (({ data := #[32] } : ByteArray) ++ NB)) (w' := w') ?_ ⟨_, rfl, envG hG rfl, hK, by simpa [upd, doneL] using hR⟩
        simp only [execOp, x7]
        go_simp
        all_goals omega
      case o13 =>
        intro E env L w' hcl hL hp hd ho2 ⟨hG, hK, hR⟩
        have d9 : L 9 = true := hp ⟨9, .data⟩ (by simp) rfl
        have x9 : E.eval (.tmp 15) = _ := (hd 9 15 d9 rfl (by simp)).trans (hG 9 d9)
        have d10 : L 10 = true := hp ⟨10, .data⟩ (by simp) rfl
        obtain ⟨Y, e10, hY, hYX, hB⟩ := hR d10
        have x10 : E.eval (.tmp 5) = .pointer (some ⟨Y, 0, none⟩) := (hd 10 5 d10 rfl (by simp)).trans e10
        rw [if_neg (by rw [hL]; simp)] at hB
        have y0 := hB.cell (i := 0) rfl
        have f0 := hB.free 0
        have y1 := hB.cell (i := 1) rfl
        have f1 := hB.free 1
        have y2 := hB.cell (i := 2) rfl
        have f2 := hB.free 2
        have y3 := hB.cell (i := 3) rfl
        have f3 := hB.free 3
        have y4 := hB.cell (i := 4) rfl
        have f4 := hB.free 4
        have y5 := hB.cell (i := 5) rfl
        have f5 := hB.free 5
        have kc : Chg [Y] w' ((((((w'.setCell ⟨Y, 0, none⟩ (.int .i64 s0)).setCell ⟨Y, 1, none⟩ (.int .i64 s1)).setCell ⟨Y, 2, none⟩ (.int .i64 s2)).setCell ⟨Y, 3, none⟩ (.int .i64 s3)).setCell ⟨Y, 4, none⟩ (.int .i64 s4)).setCell ⟨Y, 5, none⟩ (.int .i64 s5)) := (((((((Chg.refl [Y] w').set (Or.inl (List.mem_singleton.2 rfl)) 0 (.int .i64 s0)).set (Or.inl (List.mem_singleton.2 rfl)) 1 (.int .i64 s1)).set (Or.inl (List.mem_singleton.2 rfl)) 2 (.int .i64 s2)).set (Or.inl (List.mem_singleton.2 rfl)) 3 (.int .i64 s3)).set (Or.inl (List.mem_singleton.2 rfl)) 4 (.int .i64 s4)).set (Or.inl (List.mem_singleton.2 rfl)) 5 (.int .i64 s5))
        refine wp_skp (w' := ((((((w'.setCell ⟨Y, 0, none⟩ (.int .i64 s0)).setCell ⟨Y, 1, none⟩ (.int .i64 s1)).setCell ⟨Y, 2, none⟩ (.int .i64 s2)).setCell ⟨Y, 3, none⟩ (.int .i64 s3)).setCell ⟨Y, 4, none⟩ (.int .i64 s4)).setCell ⟨Y, 5, none⟩ (.int .i64 s5))) ?_ ⟨_, rfl, envG hG trivial, ⟨hK.1.chg kc (by simp; omega), kc.onto hK.2 hK.2.size (by simp; omega)⟩, fun _ => ⟨Y, by simpa [upd] using e10, hY, hYX, by simp only [doneL]; exact ((((((hB.set 0 (.int .i64 s0)).set 1 (.int .i64 s1)).set 2 (.int .i64 s2)).set 3 (.int .i64 s3)).set 4 (.int .i64 s4)).set 5 (.int .i64 s5))⟩⟩
        simp only [execOp, x9, x10]
        go_simp
    case hend =>
      intro env w' ⟨hG, hK, hR⟩
      obtain ⟨Y, e10, hY, hYX, hBY⟩ := hR rfl
      rw [if_pos (by simp)] at hBY
      have HZ := Lib.hid (And.intro hK hBY)
      have e11 : env 11 = _ := hG 11 rfl
      have e12 : env 12 = _ := hG 12 rfl
      clear hK hBY hR hG
      simp only [putsE, Act.put, e10, e11, e12, List.setIfInBounds_toArray, List.set_cons_zero, List.set_cons_succ]
      go_wp2_with fail
      go_meet
      exact ⟨rfl, rfl, Y, rfl, HZ⟩
  case rest =>
    obtain ⟨rfl, rfl, Y, rfl, HZ⟩ := hcut
    clear HB
    have HC := Lib.hid HZ.out.1
    have d0 := HC.out.1.cell (i := 0) rfl
    have d1 := HC.out.1.cell (i := 1) rfl
    have d2 := HC.out.1.cell (i := 2) rfl
    have d3 := HC.out.1.cell (i := 3) rfl
    have d4 := HC.out.1.cell (i := 4) rfl
    have d5 := HC.out.1.cell (i := 5) rfl
    have d6 := HC.out.1.cell (i := 6) rfl
    have d7 := HC.out.1.cell (i := 7) rfl
    have d8 := HC.out.1.cell (i := 8) rfl
    have d9 := HC.out.1.cell (i := 9) rfl
    have d10 := HC.out.1.cell (i := 10) rfl
    have d11 := HC.out.1.cell (i := 11) rfl
    go_wp2_with (go_at_call 32; (with_reducible refine (qr_quote b Q0 HQ.out.1 HQ.out.2 _).mono ?_); rintro e1 V1 ⟨rfl, q3⟩; have HCn := Lib.hid (And.intro (HC.out.1.chg (l := []) (Chg.of_fresh q3) (by simp)) (HC.out.2.trans (q3.mono HC.out.2.size))); clear HC; have HC := HCn; clear HCn q3)
    go_ret
    exact ⟨by rw [← HR.out] <;> rfl, HC.out.2⟩
end Go.Proofs.YtfhhkmjjifbfeaaGreatDoor
/- Log: the document's Print (ends, steps). -/
namespace Go.Proofs.YtfhhkmjjifbfeaaGreatDoor
open Go.ChangeShapes Go.WideShapes Go.ChangeAt Go.RowKit
set_option linter.unusedSimpArgs false
set_option linter.unusedVariables false

set_option maxRecDepth 20000 in
set_option maxHeartbeats 16000000 in
theorem rg_print5 (i n t : Int) (b : ByteArray) (e s0 s1 s2 s3 s4 s5 : Int) (hb : b.size ≤ 4000) (hi : Lo.i64 i) (hn : Lo.i64 n) (he : Lo.i64 e) (ht : t ≤ 9223372036854775807) (h0 : s0 ≤ 9223372036854775807) (h1 : Lo.i64 s1) (h3 : Lo.i64 s3) (h4 : Lo.i64 s4) (R : ByteArray) (hR : Le.t (Lo.line ⟨5, i, n, t, b, e, s0, s1, s2, s3, s4, s5⟩) = R) (w : World) :
    Calls Tryz.prog 16 #[.agg #[.int .i64 5, .int .i64 i, .int .i64 n, .int .i64 t, .string b, .int .i64 e, .int .i64 s0, .int .i64 s1, .int .i64 s2, .int .i64 s3, .int .i64 s4, .int .i64 s5]] w fun z w' => z = .returned (.string R) ∧ Below w.heap.size w w' := by
  obtain ⟨NA, hNA⟩ : ∃ x, Le.num i = x := ⟨_, rfl⟩
  obtain ⟨NB, hNB⟩ : ∃ x, Le.num n = x := ⟨_, rfl⟩
  have zA := Lo.num_sz hNA hi
  have zB := Lo.num_sz hNB hn
  have HN := Lib.hid (And.intro hNA (And.intro hNB (And.intro hi hn)))
  have HR : Hid (({ data := #[101, 111, 102] } : ByteArray) ++ (({ data := #[32] } : ByteArray) ++ NA) = R) := Lib.hid (by
    rw [← hR]
    refine Le.t_of ?_
    rw [Lo.apl, Lo.apl, Lo.sp_num hNA]
    show _ = Lib.join [[101, 111, 102], Lib.itoa i] [32]
    rw [Lo.join_two, Lib.join_one]; simp)
  obtain ⟨X, hX⟩ : ∃ X, w.heap.size = X := ⟨_, rfl⟩
  have HB : Hid (Blk (w.alloc (.cells #[.int .i64 5, .int .i64 i, .int .i64 n, .int .i64 t, .string b, .int .i64 e, .int .i64 s0, .int .i64 s1, .int .i64 s2, .int .i64 s3, .int .i64 s4, .int .i64 s5] 26)) X [.int .i64 5, .int .i64 i, .int .i64 n, .int .i64 t, .string b, .int .i64 e, .int .i64 s0, .int .i64 s1, .int .i64 s2, .int .i64 s3, .int .i64 s4, .int .i64 s5] 26 ∧ Below w.heap.size w (w.alloc (.cells #[.int .i64 5, .int .i64 i, .int .i64 n, .int .i64 t, .string b, .int .i64 e, .int .i64 s0, .int .i64 s1, .int .i64 s2, .int .i64 s3, .int .i64 s4, .int .i64 s5] 26))) := Lib.hid ⟨by rw [← hX]; exact Blk.newA _ _ _, (Below.refl _ _).alloc (Nat.le_refl _) _⟩
  clear hNA hNB hi hn he ht h0 h1 h3 h4 hR hb
  go_enter Tryz.func16, Tryz.ntmps16
  go_upto_region 1 with fail
  clear hX
  revert HB
  generalize (w.alloc (.cells #[.int .i64 5, .int .i64 i, .int .i64 n, .int .i64 t, .string b, .int .i64 e, .int .i64 s0, .int .i64 s1, .int .i64 s2, .int .i64 s3, .int .i64 s4, .int .i64 s5] 26)) = W1
  intro HB
  go_cut [3, 4, 5] from 6 to 15 (fun va vb vc wx => va = .string (({ data := #[32] } : ByteArray) ++ NA) ∧ vb = .string (({ data := #[32] } : ByteArray) ++ NB) ∧ ∃ Y, vc = .pointer (some ⟨Y, 0, none⟩) ∧ Hid ((Blk wx X [.int .i64 5, .int .i64 i, .int .i64 n, .int .i64 t, .string b, .int .i64 e, .int .i64 s0, .int .i64 s1, .int .i64 s2, .int .i64 s3, .int .i64 s4, .int .i64 s5] 26 ∧ Below w.heap.size w wx) ∧ Blk wx Y [.int .i64 s0, .int .i64 s1, .int .i64 s2, .int .i64 s3, .int .i64 s4, .int .i64 s5] 24))
  case first =>
    refine wp_region_env (fun env L w' => (∀ j, L j = true → GP X i n (.agg #[.int .i64 s0, .int .i64 s1, .int .i64 s2, .int .i64 s3, .int .i64 s4, .int .i64 s5]) NA NB j (env j)) ∧ (Blk w' X [.int .i64 5, .int .i64 i, .int .i64 n, .int .i64 t, .string b, .int .i64 e, .int .i64 s0, .int .i64 s1, .int .i64 s2, .int .i64 s3, .int .i64 s4, .int .i64 s5] 26 ∧ Below w.heap.size w w') ∧ RP w w' X (L 10) (L 13) (env 10) [.int .i64 0, .int .i64 0, .int .i64 0, .int .i64 0, .int .i64 0, .int .i64 0] [.int .i64 s0, .int .i64 s1, .int .i64 s2, .int .i64 s3, .int .i64 s4, .int .i64 s5] 24) (fun _ => undef) (by kernel_rfl) (by kernel_rfl) (by kernel_rfl) (by kernel_rfl) ?h0 ?hstep ?hend
    case h0 => exact ⟨by simp, ⟨HB.out.1, HB.out.2.drew⟩, by intro h; simp at h⟩
    case hstep =>
      refine ⟨?o0, ?o1, ?o2, ?o3, ?o4, ?o5, ?o6, ?o7, ?o8, ?o9, ?o10, ?o11, ?o12, ?o13, trivial⟩
      case o0 =>
        intro E env L w' hcl hL hp hd ho2 ⟨hG, hK, hR⟩
        have y1 : E.eval (.tmp 1) = .pointer (some ⟨X, 0, none⟩) := ho2 1 (by kernel_rfl)
        refine wp_val (v := .pointer (some ⟨X, 1, none⟩)) (w' := w') ?_ ⟨_, rfl, envG hG rfl, hK, by simpa [upd, doneL] using hR⟩
        simp only [execOp, y1]
        go_simp
        all_goals omega
      case o1 =>
        intro E env L w' hcl hL hp hd ho2 ⟨hG, hK, hR⟩
        have d0 : L 0 = true := hp ⟨0, .data⟩ (by simp) rfl
        have x0 : E.eval (.tmp 6) = _ := (hd 0 6 d0 rfl (by simp)).trans (hG 0 d0)
        have c1 := hK.1.cell (i := 1) rfl
        refine wp_val (v := .int .i64 i) (w' := w') ?_ ⟨_, rfl, envG hG rfl, hK, by simpa [upd, doneL] using hR⟩
        simp only [execOp, x0]
        go_simp
        all_goals omega
      case o2 =>
        intro E env L w' hcl hL hp hd ho2 ⟨hG, hK, hR⟩
        have d1 : L 1 = true := hp ⟨1, .data⟩ (by simp) rfl
        have x1 : E.eval (.tmp 7) = _ := (hd 1 7 d1 rfl (by simp)).trans (hG 1 d1)
        have hKh := Lib.hid hK
        have hRh := Lib.hid hR
        have z1 : E.tmps[7]?.getD undef = .int .i64 i := by simpa [Act.eval, GP] using x1
        have hGh := Lib.hid hG
        clear hK hR hG x1 hd ho2 hcl hp
        unfold Oper.wp
        simp only [execOp]
        go_simp
        (try rw [z1])
        go_at_call 30
        refine (rl_num i HN.out.2.2.1.1 HN.out.2.2.1.2 NA HN.out.1.symm _).mono ?_
        rintro e1 V1 ⟨rfl, q3⟩
        exact ⟨_, rfl, envG hGh.out rfl, ⟨hKh.out.1.chg (l := []) (Chg.of_fresh q3) (by simp), hKh.out.2.trans (q3.mono hKh.out.2.size)⟩, by have h := hRh.out.below q3; simpa [upd, doneL] using h⟩
      case o3 =>
        intro E env L w' hcl hL hp hd ho2 ⟨hG, hK, hR⟩
        have d2 : L 2 = true := hp ⟨2, .data⟩ (by simp) rfl
        have x2 : E.eval (.tmp 8) = _ := (hd 2 8 d2 rfl (by simp)).trans (hG 2 d2)
        refine wp_val (v := .string (({ data := #[32] } : ByteArray) ++ NA)) (w' := w') ?_ ⟨_, rfl, envG hG rfl, hK, by simpa [upd, doneL] using hR⟩
        simp only [execOp, x2]
        go_simp
        all_goals omega
      case o4 =>
        intro E env L w' hcl hL hp hd ho2 ⟨hG, hK, hR⟩
        have y1 : E.eval (.tmp 1) = .pointer (some ⟨X, 0, none⟩) := ho2 1 (by kernel_rfl)
        refine wp_val (v := .pointer (some ⟨X, 2, none⟩)) (w' := w') ?_ ⟨_, rfl, envG hG rfl, hK, by simpa [upd, doneL] using hR⟩
        simp only [execOp, y1]
        go_simp
        all_goals omega
      case o5 =>
        intro E env L w' hcl hL hp hd ho2 ⟨hG, hK, hR⟩
        have d4 : L 4 = true := hp ⟨4, .data⟩ (by simp) rfl
        have x4 : E.eval (.tmp 10) = _ := (hd 4 10 d4 rfl (by simp)).trans (hG 4 d4)
        have c2 := hK.1.cell (i := 2) rfl
        refine wp_val (v := .int .i64 n) (w' := w') ?_ ⟨_, rfl, envG hG rfl, hK, by simpa [upd, doneL] using hR⟩
        simp only [execOp, x4]
        go_simp
        all_goals omega
      case o6 =>
        intro E env L w' hcl hL hp hd ho2 ⟨hG, hK, hR⟩
        have d5 : L 5 = true := hp ⟨5, .data⟩ (by simp) rfl
        have x5 : E.eval (.tmp 11) = _ := (hd 5 11 d5 rfl (by simp)).trans (hG 5 d5)
        have hKh := Lib.hid hK
        have hRh := Lib.hid hR
        have z1 : E.tmps[11]?.getD undef = .int .i64 n := by simpa [Act.eval, GP] using x5
        have hGh := Lib.hid hG
        clear hK hR hG x5 hd ho2 hcl hp
        unfold Oper.wp
        simp only [execOp]
        go_simp
        (try rw [z1])
        go_at_call 30
        refine (rl_num n HN.out.2.2.2.1 HN.out.2.2.2.2 NB HN.out.2.1.symm _).mono ?_
        rintro e1 V1 ⟨rfl, q3⟩
        exact ⟨_, rfl, envG hGh.out rfl, ⟨hKh.out.1.chg (l := []) (Chg.of_fresh q3) (by simp), hKh.out.2.trans (q3.mono hKh.out.2.size)⟩, by have h := hRh.out.below q3; simpa [upd, doneL] using h⟩
      case o7 =>
        intro E env L w' hcl hL hp hd ho2 ⟨hG, hK, hR⟩
        have d6 : L 6 = true := hp ⟨6, .data⟩ (by simp) rfl
        have x6 : E.eval (.tmp 12) = _ := (hd 6 12 d6 rfl (by simp)).trans (hG 6 d6)
        refine wp_val (v := .string (({ data := #[32] } : ByteArray) ++ NB)) (w' := w') ?_ ⟨_, rfl, envG hG rfl, hK, by simpa [upd, doneL] using hR⟩
        simp only [execOp, x6]
        go_simp
        all_goals omega
      case o8 =>
        intro E env L w' hcl hL hp hd ho2 ⟨hG, hK, hR⟩
        have y1 : E.eval (.tmp 1) = .pointer (some ⟨X, 0, none⟩) := ho2 1 (by kernel_rfl)
        refine wp_val (v := .pointer (some ⟨X, 6, none⟩)) (w' := w') ?_ ⟨_, rfl, envG hG rfl, hK, by simpa [upd, doneL] using hR⟩
        simp only [execOp, y1]
        go_simp
        all_goals omega
      case o9 =>
        intro E env L w' hcl hL hp hd ho2 ⟨hG, hK, hR⟩
        have d8 : L 8 = true := hp ⟨8, .data⟩ (by simp) rfl
        have x8 : E.eval (.tmp 14) = _ := (hd 8 14 d8 rfl (by simp)).trans (hG 8 d8)
        have c6 := hK.1.cell (i := 6) rfl
        have c7 := hK.1.cell (i := 7) rfl
        have c8 := hK.1.cell (i := 8) rfl
        have c9 := hK.1.cell (i := 9) rfl
        have c10 := hK.1.cell (i := 10) rfl
        have c11 := hK.1.cell (i := 11) rfl
        refine wp_val (v := .agg #[.int .i64 s0, .int .i64 s1, .int .i64 s2, .int .i64 s3, .int .i64 s4, .int .i64 s5]) (w' := w') ?_ ⟨_, rfl, envG hG rfl, hK, by simpa [upd, doneL] using hR⟩
        simp only [execOp, x8]
        go_simp
        all_goals omega
      case o10 =>
        intro E env L w' hcl hL hp hd ho2 ⟨hG, hK, hR⟩
        have hs := hK.2.size
        have hx := hK.1.lt
        have ka : Below w'.heap.size w' (w'.alloc (.cells #[.int .i64 0, .int .i64 0, .int .i64 0, .int .i64 0, .int .i64 0, .int .i64 0] 24)) := (Below.refl _ _).alloc (Nat.le_refl _) _
        have h13 : L 13 = false := by
          cases h0 : L 13 with
          | false => rfl
          | true =>
            have h1 := hcl 13 _ rfl h0 ⟨10, .data⟩ (by simp) rfl
            exact absurd (h1.symm.trans hL) (by simp)
        refine wp_val (v := .pointer (some ⟨w'.heap.size, 0, none⟩)) (w' := w'.alloc (.cells #[.int .i64 0, .int .i64 0, .int .i64 0, .int .i64 0, .int .i64 0, .int .i64 0] 24)) ?_ ⟨_, rfl, envG hG trivial, ⟨hK.1.chg (l := []) (Chg.of_fresh ka) (by simp), hK.2.trans (ka.mono hK.2.size)⟩, fun _ => ⟨w'.heap.size, by simp [upd], hs, by omega, by simp only [doneL, show (13 : Nat) ≠ 10 by decide, h13]; simpa [h13] using Blk.newA w' #[.int .i64 0, .int .i64 0, .int .i64 0, .int .i64 0, .int .i64 0, .int .i64 0] 24⟩⟩
        simp only [execOp]
        go_simp
      case o11 =>
        intro E env L w' hcl hL hp hd ho2 ⟨hG, hK, hR⟩
        have d3 : L 3 = true := hp ⟨3, .data⟩ (by simp) rfl
        have x3 : E.eval (.tmp 9) = _ := (hd 3 9 d3 rfl (by simp)).trans (hG 3 d3)
        refine wp_val (v := .string (({ data := #[32] } : ByteArray) ++ NA)) (w' := w') ?_ ⟨_, rfl, envG hG rfl, hK, by simpa [upd, doneL] using hR⟩
        simp only [execOp, x3]
        go_simp
        all_goals omega
      case o12 =>
        intro E env L w' hcl hL hp hd ho2 ⟨hG, hK, hR⟩
        have d7 : L 7 = true := hp ⟨7, .data⟩ (by simp) rfl
        have x7 : E.eval (.tmp 13) = _ := (hd 7 13 d7 rfl (by simp)).trans (hG 7 d7)
        refine wp_val (v := .string (({ data := #[32] } : ByteArray) ++ NB)) (w' := w') ?_ ⟨_, rfl, envG hG rfl, hK, by simpa [upd, doneL] using hR⟩
        simp only [execOp, x7]
        go_simp
        all_goals omega
      case o13 =>
        intro E env L w' hcl hL hp hd ho2 ⟨hG, hK, hR⟩
        have d9 : L 9 = true := hp ⟨9, .data⟩ (by simp) rfl
        have x9 : E.eval (.tmp 15) = _ := (hd 9 15 d9 rfl (by simp)).trans (hG 9 d9)
        have d10 : L 10 = true := hp ⟨10, .data⟩ (by simp) rfl
        obtain ⟨Y, e10, hY, hYX, hB⟩ := hR d10
        have x10 : E.eval (.tmp 5) = .pointer (some ⟨Y, 0, none⟩) := (hd 10 5 d10 rfl (by simp)).trans e10
        rw [if_neg (by rw [hL]; simp)] at hB
        have y0 := hB.cell (i := 0) rfl
        have f0 := hB.free 0
        have y1 := hB.cell (i := 1) rfl
        have f1 := hB.free 1
        have y2 := hB.cell (i := 2) rfl
        have f2 := hB.free 2
        have y3 := hB.cell (i := 3) rfl
        have f3 := hB.free 3
        have y4 := hB.cell (i := 4) rfl
        have f4 := hB.free 4
        have y5 := hB.cell (i := 5) rfl
        have f5 := hB.free 5
        have kc : Chg [Y] w' ((((((w'.setCell ⟨Y, 0, none⟩ (.int .i64 s0)).setCell ⟨Y, 1, none⟩ (.int .i64 s1)).setCell ⟨Y, 2, none⟩ (.int .i64 s2)).setCell ⟨Y, 3, none⟩ (.int .i64 s3)).setCell ⟨Y, 4, none⟩ (.int .i64 s4)).setCell ⟨Y, 5, none⟩ (.int .i64 s5)) := (((((((Chg.refl [Y] w').set (Or.inl (List.mem_singleton.2 rfl)) 0 (.int .i64 s0)).set (Or.inl (List.mem_singleton.2 rfl)) 1 (.int .i64 s1)).set (Or.inl (List.mem_singleton.2 rfl)) 2 (.int .i64 s2)).set (Or.inl (List.mem_singleton.2 rfl)) 3 (.int .i64 s3)).set (Or.inl (List.mem_singleton.2 rfl)) 4 (.int .i64 s4)).set (Or.inl (List.mem_singleton.2 rfl)) 5 (.int .i64 s5))
        refine wp_skp (w' := ((((((w'.setCell ⟨Y, 0, none⟩ (.int .i64 s0)).setCell ⟨Y, 1, none⟩ (.int .i64 s1)).setCell ⟨Y, 2, none⟩ (.int .i64 s2)).setCell ⟨Y, 3, none⟩ (.int .i64 s3)).setCell ⟨Y, 4, none⟩ (.int .i64 s4)).setCell ⟨Y, 5, none⟩ (.int .i64 s5))) ?_ ⟨_, rfl, envG hG trivial, ⟨hK.1.chg kc (by simp; omega), kc.onto hK.2 hK.2.size (by simp; omega)⟩, fun _ => ⟨Y, by simpa [upd] using e10, hY, hYX, by simp only [doneL]; exact ((((((hB.set 0 (.int .i64 s0)).set 1 (.int .i64 s1)).set 2 (.int .i64 s2)).set 3 (.int .i64 s3)).set 4 (.int .i64 s4)).set 5 (.int .i64 s5))⟩⟩
        simp only [execOp, x9, x10]
        go_simp
    case hend =>
      intro env w' ⟨hG, hK, hR⟩
      obtain ⟨Y, e10, hY, hYX, hBY⟩ := hR rfl
      rw [if_pos (by simp)] at hBY
      have HZ := Lib.hid (And.intro hK hBY)
      have e11 : env 11 = _ := hG 11 rfl
      have e12 : env 12 = _ := hG 12 rfl
      clear hK hBY hR hG
      simp only [putsE, Act.put, e10, e11, e12, List.setIfInBounds_toArray, List.set_cons_zero, List.set_cons_succ]
      go_wp2_with fail
      go_meet
      exact ⟨rfl, rfl, Y, rfl, HZ⟩
  case rest =>
    obtain ⟨rfl, rfl, Y, rfl, HZ⟩ := hcut
    clear HB
    have HC := Lib.hid HZ.out.1
    have d0 := HC.out.1.cell (i := 0) rfl
    have d1 := HC.out.1.cell (i := 1) rfl
    have d2 := HC.out.1.cell (i := 2) rfl
    have d3 := HC.out.1.cell (i := 3) rfl
    have d4 := HC.out.1.cell (i := 4) rfl
    have d5 := HC.out.1.cell (i := 5) rfl
    have d6 := HC.out.1.cell (i := 6) rfl
    have d7 := HC.out.1.cell (i := 7) rfl
    have d8 := HC.out.1.cell (i := 8) rfl
    have d9 := HC.out.1.cell (i := 9) rfl
    have d10 := HC.out.1.cell (i := 10) rfl
    have d11 := HC.out.1.cell (i := 11) rfl
    go_wp2_with fail
    go_ret
    exact ⟨by rw [← HR.out] <;> rfl, HC.out.2⟩
set_option maxRecDepth 20000 in
set_option maxHeartbeats 16000000 in
theorem rg_print8 (i n t : Int) (b : ByteArray) (e s0 s1 s2 s3 s4 s5 : Int) (hb : b.size ≤ 4000) (hi : Lo.i64 i) (hn : Lo.i64 n) (he : Lo.i64 e) (ht : t ≤ 9223372036854775807) (h0 : s0 ≤ 9223372036854775807) (h1 : Lo.i64 s1) (h3 : Lo.i64 s3) (h4 : Lo.i64 s4) (R : ByteArray) (hR : Le.t (Lo.line ⟨8, i, n, t, b, e, s0, s1, s2, s3, s4, s5⟩) = R) (w : World) :
    Calls Tryz.prog 16 #[.agg #[.int .i64 8, .int .i64 i, .int .i64 n, .int .i64 t, .string b, .int .i64 e, .int .i64 s0, .int .i64 s1, .int .i64 s2, .int .i64 s3, .int .i64 s4, .int .i64 s5]] w fun z w' => z = .returned (.string R) ∧ Below w.heap.size w w' := by
  obtain ⟨NA, hNA⟩ : ∃ x, Le.num i = x := ⟨_, rfl⟩
  obtain ⟨NB, hNB⟩ : ∃ x, Le.num n = x := ⟨_, rfl⟩
  have zA := Lo.num_sz hNA hi
  have zB := Lo.num_sz hNB hn
  have HN := Lib.hid (And.intro hNA (And.intro hNB (And.intro hi hn)))
  obtain ⟨tf, htf⟩ : ∃ n : Nat, Tk.own s0 = (n : Int) := ⟨(Tk.own s0).toNat, by have := Tk.own_nn s0; omega⟩
  obtain ⟨T0, hT0⟩ : ∃ x, Le.t (Lo.tt s0) = x := ⟨_, rfl⟩
  have hT1 : T0.data.toList = Lo.tt s0 := by rw [← hT0]; exact Le.t_list _
  have zT : T0.size ≤ 30 := by have h := Lo.tt_len h0; rw [← hT1] at h; exact h
  obtain ⟨N1, hN1⟩ : ∃ x, Le.num s1 = x := ⟨_, rfl⟩
  obtain ⟨N3, hN3⟩ : ∃ x, Le.num s3 = x := ⟨_, rfl⟩
  obtain ⟨N4, hN4⟩ : ∃ x, Le.num s4 = x := ⟨_, rfl⟩
  have z1 := Lo.num_sz hN1 h1
  have z3 := Lo.num_sz hN3 h3
  have z4 := Lo.num_sz hN4 h4
  obtain ⟨w2, hw2⟩ : ∃ x, Lo.word s2 = x := ⟨_, rfl⟩
  obtain ⟨w5, hw5⟩ : ∃ x, Le.word s5 = x := ⟨_, rfl⟩
  have z2 : w2.size ≤ 30 := by rw [← hw2]; exact Lo.word_le s2
  have z5 : w5.size ≤ 30 := by rw [← hw5]; exact Lo.word5_le s5
  have HR : Hid (({ data := #[115, 116, 101, 112] } : ByteArray) ++ (({ data := #[32] } : ByteArray) ++ NA) ++ ({ data := #[32] } : ByteArray) ++ T0 ++ ({ data := #[32] } : ByteArray) ++ N1 ++ ({ data := #[32] } : ByteArray) ++ w2 ++ ({ data := #[32] } : ByteArray) ++ N3 ++ ({ data := #[32] } : ByteArray) ++ N4 ++ ({ data := #[32] } : ByteArray) ++ w5 = R) := Lib.hid (by
    rw [← hR]
    refine Le.t_of ?_
    simp only [Lo.apl, Lo.sp_num hNA, hT1, Lo.sp_num hN1, Lo.sp_num hN3, Lo.sp_num hN4]
    show _ = Lib.join [[115, 116, 101, 112], Lib.itoa i, Lib.join [Lo.tt s0, Lib.itoa s1, (Lo.word s2).data.toList, Lib.itoa s3, Lib.itoa s4, (Le.word s5).data.toList] [32]] [32]
    rw [Lo.join_nest, hw2, hw5]
    simp only [Lo.join_two, Lib.join_one]
    simp)
  have HP : Hid ((s0 ≤ 9223372036854775807 ∧ Tk.own s0 = (tf : Int) ∧ T0.data.toList = Tx.text tf) ∧ ((-9223372036854775808 ≤ s1 ∧ s1 ≤ 9223372036854775807) ∧ Le.num s1 = N1) ∧ ((-9223372036854775808 ≤ s3 ∧ s3 ≤ 9223372036854775807) ∧ Le.num s3 = N3) ∧ ((-9223372036854775808 ≤ s4 ∧ s4 ≤ 9223372036854775807) ∧ Le.num s4 = N4) ∧ Lo.word s2 = w2 ∧ Le.word s5 = w5) := Lib.hid ⟨⟨h0, htf, by rw [hT1]; unfold Lo.tt; rw [htf]; rfl⟩, ⟨⟨h1.1, h1.2⟩, hN1⟩, ⟨⟨h3.1, h3.2⟩, hN3⟩, ⟨⟨h4.1, h4.2⟩, hN4⟩, hw2, hw5⟩
  clear htf hT0 hT1 hN1 hN3 hN4 hw2 hw5
  obtain ⟨X, hX⟩ : ∃ X, w.heap.size = X := ⟨_, rfl⟩
  have HB : Hid (Blk (w.alloc (.cells #[.int .i64 8, .int .i64 i, .int .i64 n, .int .i64 t, .string b, .int .i64 e, .int .i64 s0, .int .i64 s1, .int .i64 s2, .int .i64 s3, .int .i64 s4, .int .i64 s5] 26)) X [.int .i64 8, .int .i64 i, .int .i64 n, .int .i64 t, .string b, .int .i64 e, .int .i64 s0, .int .i64 s1, .int .i64 s2, .int .i64 s3, .int .i64 s4, .int .i64 s5] 26 ∧ Below w.heap.size w (w.alloc (.cells #[.int .i64 8, .int .i64 i, .int .i64 n, .int .i64 t, .string b, .int .i64 e, .int .i64 s0, .int .i64 s1, .int .i64 s2, .int .i64 s3, .int .i64 s4, .int .i64 s5] 26))) := Lib.hid ⟨by rw [← hX]; exact Blk.newA _ _ _, (Below.refl _ _).alloc (Nat.le_refl _) _⟩
  clear hNA hNB hi hn he ht h0 h1 h3 h4 hR hb
  go_enter Tryz.func16, Tryz.ntmps16
  go_upto_region 1 with fail
  clear hX
  revert HB
  generalize (w.alloc (.cells #[.int .i64 8, .int .i64 i, .int .i64 n, .int .i64 t, .string b, .int .i64 e, .int .i64 s0, .int .i64 s1, .int .i64 s2, .int .i64 s3, .int .i64 s4, .int .i64 s5] 26)) = W1
  intro HB
  go_cut [3, 4, 5] from 6 to 15 (fun va vb vc wx => va = .string (({ data := #[32] } : ByteArray) ++ NA) ∧ vb = .string (({ data := #[32] } : ByteArray) ++ NB) ∧ ∃ Y, vc = .pointer (some ⟨Y, 0, none⟩) ∧ Hid ((Blk wx X [.int .i64 8, .int .i64 i, .int .i64 n, .int .i64 t, .string b, .int .i64 e, .int .i64 s0, .int .i64 s1, .int .i64 s2, .int .i64 s3, .int .i64 s4, .int .i64 s5] 26 ∧ Below w.heap.size w wx) ∧ Blk wx Y [.int .i64 s0, .int .i64 s1, .int .i64 s2, .int .i64 s3, .int .i64 s4, .int .i64 s5] 24))
  case first =>
    refine wp_region_env (fun env L w' => (∀ j, L j = true → GP X i n (.agg #[.int .i64 s0, .int .i64 s1, .int .i64 s2, .int .i64 s3, .int .i64 s4, .int .i64 s5]) NA NB j (env j)) ∧ (Blk w' X [.int .i64 8, .int .i64 i, .int .i64 n, .int .i64 t, .string b, .int .i64 e, .int .i64 s0, .int .i64 s1, .int .i64 s2, .int .i64 s3, .int .i64 s4, .int .i64 s5] 26 ∧ Below w.heap.size w w') ∧ RP w w' X (L 10) (L 13) (env 10) [.int .i64 0, .int .i64 0, .int .i64 0, .int .i64 0, .int .i64 0, .int .i64 0] [.int .i64 s0, .int .i64 s1, .int .i64 s2, .int .i64 s3, .int .i64 s4, .int .i64 s5] 24) (fun _ => undef) (by kernel_rfl) (by kernel_rfl) (by kernel_rfl) (by kernel_rfl) ?h0 ?hstep ?hend
    case h0 => exact ⟨by simp, ⟨HB.out.1, HB.out.2.drew⟩, by intro h; simp at h⟩
    case hstep =>
      refine ⟨?o0, ?o1, ?o2, ?o3, ?o4, ?o5, ?o6, ?o7, ?o8, ?o9, ?o10, ?o11, ?o12, ?o13, trivial⟩
      case o0 =>
        intro E env L w' hcl hL hp hd ho2 ⟨hG, hK, hR⟩
        have y1 : E.eval (.tmp 1) = .pointer (some ⟨X, 0, none⟩) := ho2 1 (by kernel_rfl)
        refine wp_val (v := .pointer (some ⟨X, 1, none⟩)) (w' := w') ?_ ⟨_, rfl, envG hG rfl, hK, by simpa [upd, doneL] using hR⟩
        simp only [execOp, y1]
        go_simp
        all_goals omega
      case o1 =>
        intro E env L w' hcl hL hp hd ho2 ⟨hG, hK, hR⟩
        have d0 : L 0 = true := hp ⟨0, .data⟩ (by simp) rfl
        have x0 : E.eval (.tmp 6) = _ := (hd 0 6 d0 rfl (by simp)).trans (hG 0 d0)
        have c1 := hK.1.cell (i := 1) rfl
        refine wp_val (v := .int .i64 i) (w' := w') ?_ ⟨_, rfl, envG hG rfl, hK, by simpa [upd, doneL] using hR⟩
        simp only [execOp, x0]
        go_simp
        all_goals omega
      case o2 =>
        intro E env L w' hcl hL hp hd ho2 ⟨hG, hK, hR⟩
        have d1 : L 1 = true := hp ⟨1, .data⟩ (by simp) rfl
        have x1 : E.eval (.tmp 7) = _ := (hd 1 7 d1 rfl (by simp)).trans (hG 1 d1)
        have hKh := Lib.hid hK
        have hRh := Lib.hid hR
        have z1 : E.tmps[7]?.getD undef = .int .i64 i := by simpa [Act.eval, GP] using x1
        have hGh := Lib.hid hG
        clear hK hR hG x1 hd ho2 hcl hp
        unfold Oper.wp
        simp only [execOp]
        go_simp
        (try rw [z1])
        go_at_call 30
        refine (rl_num i HN.out.2.2.1.1 HN.out.2.2.1.2 NA HN.out.1.symm _).mono ?_
        rintro e1 V1 ⟨rfl, q3⟩
        exact ⟨_, rfl, envG hGh.out rfl, ⟨hKh.out.1.chg (l := []) (Chg.of_fresh q3) (by simp), hKh.out.2.trans (q3.mono hKh.out.2.size)⟩, by have h := hRh.out.below q3; simpa [upd, doneL] using h⟩
      case o3 =>
        intro E env L w' hcl hL hp hd ho2 ⟨hG, hK, hR⟩
        have d2 : L 2 = true := hp ⟨2, .data⟩ (by simp) rfl
        have x2 : E.eval (.tmp 8) = _ := (hd 2 8 d2 rfl (by simp)).trans (hG 2 d2)
        refine wp_val (v := .string (({ data := #[32] } : ByteArray) ++ NA)) (w' := w') ?_ ⟨_, rfl, envG hG rfl, hK, by simpa [upd, doneL] using hR⟩
        simp only [execOp, x2]
        go_simp
        all_goals omega
      case o4 =>
        intro E env L w' hcl hL hp hd ho2 ⟨hG, hK, hR⟩
        have y1 : E.eval (.tmp 1) = .pointer (some ⟨X, 0, none⟩) := ho2 1 (by kernel_rfl)
        refine wp_val (v := .pointer (some ⟨X, 2, none⟩)) (w' := w') ?_ ⟨_, rfl, envG hG rfl, hK, by simpa [upd, doneL] using hR⟩
        simp only [execOp, y1]
        go_simp
        all_goals omega
      case o5 =>
        intro E env L w' hcl hL hp hd ho2 ⟨hG, hK, hR⟩
        have d4 : L 4 = true := hp ⟨4, .data⟩ (by simp) rfl
        have x4 : E.eval (.tmp 10) = _ := (hd 4 10 d4 rfl (by simp)).trans (hG 4 d4)
        have c2 := hK.1.cell (i := 2) rfl
        refine wp_val (v := .int .i64 n) (w' := w') ?_ ⟨_, rfl, envG hG rfl, hK, by simpa [upd, doneL] using hR⟩
        simp only [execOp, x4]
        go_simp
        all_goals omega
      case o6 =>
        intro E env L w' hcl hL hp hd ho2 ⟨hG, hK, hR⟩
        have d5 : L 5 = true := hp ⟨5, .data⟩ (by simp) rfl
        have x5 : E.eval (.tmp 11) = _ := (hd 5 11 d5 rfl (by simp)).trans (hG 5 d5)
        have hKh := Lib.hid hK
        have hRh := Lib.hid hR
        have z1 : E.tmps[11]?.getD undef = .int .i64 n := by simpa [Act.eval, GP] using x5
        have hGh := Lib.hid hG
        clear hK hR hG x5 hd ho2 hcl hp
        unfold Oper.wp
        simp only [execOp]
        go_simp
        (try rw [z1])
        go_at_call 30
        refine (rl_num n HN.out.2.2.2.1 HN.out.2.2.2.2 NB HN.out.2.1.symm _).mono ?_
        rintro e1 V1 ⟨rfl, q3⟩
        exact ⟨_, rfl, envG hGh.out rfl, ⟨hKh.out.1.chg (l := []) (Chg.of_fresh q3) (by simp), hKh.out.2.trans (q3.mono hKh.out.2.size)⟩, by have h := hRh.out.below q3; simpa [upd, doneL] using h⟩
      case o7 =>
        intro E env L w' hcl hL hp hd ho2 ⟨hG, hK, hR⟩
        have d6 : L 6 = true := hp ⟨6, .data⟩ (by simp) rfl
        have x6 : E.eval (.tmp 12) = _ := (hd 6 12 d6 rfl (by simp)).trans (hG 6 d6)
        refine wp_val (v := .string (({ data := #[32] } : ByteArray) ++ NB)) (w' := w') ?_ ⟨_, rfl, envG hG rfl, hK, by simpa [upd, doneL] using hR⟩
        simp only [execOp, x6]
        go_simp
        all_goals omega
      case o8 =>
        intro E env L w' hcl hL hp hd ho2 ⟨hG, hK, hR⟩
        have y1 : E.eval (.tmp 1) = .pointer (some ⟨X, 0, none⟩) := ho2 1 (by kernel_rfl)
        refine wp_val (v := .pointer (some ⟨X, 6, none⟩)) (w' := w') ?_ ⟨_, rfl, envG hG rfl, hK, by simpa [upd, doneL] using hR⟩
        simp only [execOp, y1]
        go_simp
        all_goals omega
      case o9 =>
        intro E env L w' hcl hL hp hd ho2 ⟨hG, hK, hR⟩
        have d8 : L 8 = true := hp ⟨8, .data⟩ (by simp) rfl
        have x8 : E.eval (.tmp 14) = _ := (hd 8 14 d8 rfl (by simp)).trans (hG 8 d8)
        have c6 := hK.1.cell (i := 6) rfl
        have c7 := hK.1.cell (i := 7) rfl
        have c8 := hK.1.cell (i := 8) rfl
        have c9 := hK.1.cell (i := 9) rfl
        have c10 := hK.1.cell (i := 10) rfl
        have c11 := hK.1.cell (i := 11) rfl
        refine wp_val (v := .agg #[.int .i64 s0, .int .i64 s1, .int .i64 s2, .int .i64 s3, .int .i64 s4, .int .i64 s5]) (w' := w') ?_ ⟨_, rfl, envG hG rfl, hK, by simpa [upd, doneL] using hR⟩
        simp only [execOp, x8]
        go_simp
        all_goals omega
      case o10 =>
        intro E env L w' hcl hL hp hd ho2 ⟨hG, hK, hR⟩
        have hs := hK.2.size
        have hx := hK.1.lt
        have ka : Below w'.heap.size w' (w'.alloc (.cells #[.int .i64 0, .int .i64 0, .int .i64 0, .int .i64 0, .int .i64 0, .int .i64 0] 24)) := (Below.refl _ _).alloc (Nat.le_refl _) _
        have h13 : L 13 = false := by
          cases h0 : L 13 with
          | false => rfl
          | true =>
            have h1 := hcl 13 _ rfl h0 ⟨10, .data⟩ (by simp) rfl
            exact absurd (h1.symm.trans hL) (by simp)
        refine wp_val (v := .pointer (some ⟨w'.heap.size, 0, none⟩)) (w' := w'.alloc (.cells #[.int .i64 0, .int .i64 0, .int .i64 0, .int .i64 0, .int .i64 0, .int .i64 0] 24)) ?_ ⟨_, rfl, envG hG trivial, ⟨hK.1.chg (l := []) (Chg.of_fresh ka) (by simp), hK.2.trans (ka.mono hK.2.size)⟩, fun _ => ⟨w'.heap.size, by simp [upd], hs, by omega, by simp only [doneL, show (13 : Nat) ≠ 10 by decide, h13]; simpa [h13] using Blk.newA w' #[.int .i64 0, .int .i64 0, .int .i64 0, .int .i64 0, .int .i64 0, .int .i64 0] 24⟩⟩
        simp only [execOp]
        go_simp
      case o11 =>
        intro E env L w' hcl hL hp hd ho2 ⟨hG, hK, hR⟩
        have d3 : L 3 = true := hp ⟨3, .data⟩ (by simp) rfl
        have x3 : E.eval (.tmp 9) = _ := (hd 3 9 d3 rfl (by simp)).trans (hG 3 d3)
        refine wp_val (v := .string (({ data := #[32] } : ByteArray) ++ NA)) (w' := w') ?_ ⟨_, rfl, envG hG rfl, hK, by simpa [upd, doneL] using hR⟩
        simp only [execOp, x3]
        go_simp
        all_goals omega
      case o12 =>
        intro E env L w' hcl hL hp hd ho2 ⟨hG, hK, hR⟩
        have d7 : L 7 = true := hp ⟨7, .data⟩ (by simp) rfl
        have x7 : E.eval (.tmp 13) = _ := (hd 7 13 d7 rfl (by simp)).trans (hG 7 d7)
        refine wp_val (v := .string (({ data := #[32] } : ByteArray) ++ NB)) (w' := w') ?_ ⟨_, rfl, envG hG rfl, hK, by simpa [upd, doneL] using hR⟩
        simp only [execOp, x7]
        go_simp
        all_goals omega
      case o13 =>
        intro E env L w' hcl hL hp hd ho2 ⟨hG, hK, hR⟩
        have d9 : L 9 = true := hp ⟨9, .data⟩ (by simp) rfl
        have x9 : E.eval (.tmp 15) = _ := (hd 9 15 d9 rfl (by simp)).trans (hG 9 d9)
        have d10 : L 10 = true := hp ⟨10, .data⟩ (by simp) rfl
        obtain ⟨Y, e10, hY, hYX, hB⟩ := hR d10
        have x10 : E.eval (.tmp 5) = .pointer (some ⟨Y, 0, none⟩) := (hd 10 5 d10 rfl (by simp)).trans e10
        rw [if_neg (by rw [hL]; simp)] at hB
        have y0 := hB.cell (i := 0) rfl
        have f0 := hB.free 0
        have y1 := hB.cell (i := 1) rfl
        have f1 := hB.free 1
        have y2 := hB.cell (i := 2) rfl
        have f2 := hB.free 2
        have y3 := hB.cell (i := 3) rfl
        have f3 := hB.free 3
        have y4 := hB.cell (i := 4) rfl
        have f4 := hB.free 4
        have y5 := hB.cell (i := 5) rfl
        have f5 := hB.free 5
        have kc : Chg [Y] w' ((((((w'.setCell ⟨Y, 0, none⟩ (.int .i64 s0)).setCell ⟨Y, 1, none⟩ (.int .i64 s1)).setCell ⟨Y, 2, none⟩ (.int .i64 s2)).setCell ⟨Y, 3, none⟩ (.int .i64 s3)).setCell ⟨Y, 4, none⟩ (.int .i64 s4)).setCell ⟨Y, 5, none⟩ (.int .i64 s5)) := (((((((Chg.refl [Y] w').set (Or.inl (List.mem_singleton.2 rfl)) 0 (.int .i64 s0)).set (Or.inl (List.mem_singleton.2 rfl)) 1 (.int .i64 s1)).set (Or.inl (List.mem_singleton.2 rfl)) 2 (.int .i64 s2)).set (Or.inl (List.mem_singleton.2 rfl)) 3 (.int .i64 s3)).set (Or.inl (List.mem_singleton.2 rfl)) 4 (.int .i64 s4)).set (Or.inl (List.mem_singleton.2 rfl)) 5 (.int .i64 s5))
        refine wp_skp (w' := ((((((w'.setCell ⟨Y, 0, none⟩ (.int .i64 s0)).setCell ⟨Y, 1, none⟩ (.int .i64 s1)).setCell ⟨Y, 2, none⟩ (.int .i64 s2)).setCell ⟨Y, 3, none⟩ (.int .i64 s3)).setCell ⟨Y, 4, none⟩ (.int .i64 s4)).setCell ⟨Y, 5, none⟩ (.int .i64 s5))) ?_ ⟨_, rfl, envG hG trivial, ⟨hK.1.chg kc (by simp; omega), kc.onto hK.2 hK.2.size (by simp; omega)⟩, fun _ => ⟨Y, by simpa [upd] using e10, hY, hYX, by simp only [doneL]; exact ((((((hB.set 0 (.int .i64 s0)).set 1 (.int .i64 s1)).set 2 (.int .i64 s2)).set 3 (.int .i64 s3)).set 4 (.int .i64 s4)).set 5 (.int .i64 s5))⟩⟩
        simp only [execOp, x9, x10]
        go_simp
    case hend =>
      intro env w' ⟨hG, hK, hR⟩
      obtain ⟨Y, e10, hY, hYX, hBY⟩ := hR rfl
      rw [if_pos (by simp)] at hBY
      have HZ := Lib.hid (And.intro hK hBY)
      have e11 : env 11 = _ := hG 11 rfl
      have e12 : env 12 = _ := hG 12 rfl
      clear hK hBY hR hG
      simp only [putsE, Act.put, e10, e11, e12, List.setIfInBounds_toArray, List.set_cons_zero, List.set_cons_succ]
      go_wp2_with fail
      go_meet
      exact ⟨rfl, rfl, Y, rfl, HZ⟩
  case rest =>
    obtain ⟨rfl, rfl, Y, rfl, HZ⟩ := hcut
    clear HB
    have HC := Lib.hid HZ.out.1
    have d0 := HC.out.1.cell (i := 0) rfl
    have d1 := HC.out.1.cell (i := 1) rfl
    have d2 := HC.out.1.cell (i := 2) rfl
    have d3 := HC.out.1.cell (i := 3) rfl
    have d4 := HC.out.1.cell (i := 4) rfl
    have d5 := HC.out.1.cell (i := 5) rfl
    have d6 := HC.out.1.cell (i := 6) rfl
    have d7 := HC.out.1.cell (i := 7) rfl
    have d8 := HC.out.1.cell (i := 8) rfl
    have d9 := HC.out.1.cell (i := 9) rfl
    have d10 := HC.out.1.cell (i := 10) rfl
    have d11 := HC.out.1.cell (i := 11) rfl
    go_upto_region 18 with fail
    have HY := Lib.hid (And.intro HZ.out.2 HZ.out.1.2)
    clear HZ HC
    refine wp_region_class (fun w' => Below wc.heap.size wc w') (by kernel_rfl) (by kernel_rfl) (Below.refl _ _).drew ?_
    repeat (first
      | go_big_quiet_skip
      | (go_big_quiet_want
         unfold Oper.quiet
         apply Exists.intro
         refine ⟨fun wq hwq => ?_, ?_⟩
         · (have HQ := Lib.hid (HY.out.1.chg (l := []) (Chg.of_fresh hwq) (by simp))
            have f0 := HQ.out.cell (i := 0) rfl
            have f1 := HQ.out.cell (i := 1) rfl
            have f2 := HQ.out.cell (i := 2) rfl
            have f3 := HQ.out.cell (i := 3) rfl
            have f4 := HQ.out.cell (i := 4) rfl
            have f5 := HQ.out.cell (i := 5) rfl
            unfold Oper.quietAt
            go_simp
            (try rw [if_neg (by omega)])
            first
                | exact ⟨rfl, rfl⟩
                | exact rfl
                | exact ⟨rfl, hwq⟩
                | (go_at_call 31; (with_reducible refine (tr_text s0 HP.out.1.1 tf HP.out.1.2.1 T0 HP.out.1.2.2 _).mono ?_); rintro e1 w3 ⟨he, hb2⟩; exact ⟨he, hwq.trans (hb2.mono hwq.size)⟩)
                | (go_at_call 30; (with_reducible refine (rl_num s1 HP.out.2.1.1.1 HP.out.2.1.1.2 N1 HP.out.2.1.2.symm _).mono ?_); rintro e1 w3 ⟨he, hb2⟩; exact ⟨he, hwq.trans (hb2.mono hwq.size)⟩)
                | (go_at_call 30; (with_reducible refine (rl_num s3 HP.out.2.2.1.1.1 HP.out.2.2.1.1.2 N3 HP.out.2.2.1.2.symm _).mono ?_); rintro e1 w3 ⟨he, hb2⟩; exact ⟨he, hwq.trans (hb2.mono hwq.size)⟩)
                | (go_at_call 30; (with_reducible refine (rl_num s4 HP.out.2.2.2.1.1.1 HP.out.2.2.2.1.1.2 N4 HP.out.2.2.2.1.2.symm _).mono ?_); rintro e1 w3 ⟨he, hb2⟩; exact ⟨he, hwq.trans (hb2.mono hwq.size)⟩)
                | (go_at_call 11; (with_reducible refine (ro_what s2 w2 HP.out.2.2.2.2.1 _).mono ?_); rintro e1 w3 ⟨he, hb2⟩; exact ⟨he, hwq.trans (hb2.mono hwq.size)⟩)
                | (go_at_call 13; (with_reducible refine (rl_status s5 w5 HP.out.2.2.2.2.2 _).mono ?_); rintro e1 w3 ⟨he, hb2⟩; exact ⟨he, hwq.trans (hb2.mono hwq.size)⟩)
            )
         simp only [Act.put, List.setIfInBounds_toArray, List.set_cons_zero, List.set_cons_succ]
         go_big_quiet_on))
    refine wpQuiet_nil ?_
    intro w4 hw4
    have H4 := Lib.hid (HY.out.2.trans (hw4.mono HY.out.2.size))
    clear hw4
    go_wp2_with fail
    go_ret
    exact ⟨by rw [← HR.out]; rfl, H4.out⟩
set_option maxRecDepth 20000 in
set_option maxHeartbeats 16000000 in
theorem rg_print9 (i n t : Int) (b : ByteArray) (e s0 s1 s2 s3 s4 s5 : Int) (hb : b.size ≤ 4000) (hi : Lo.i64 i) (hn : Lo.i64 n) (he : Lo.i64 e) (ht : t ≤ 9223372036854775807) (h0 : s0 ≤ 9223372036854775807) (h1 : Lo.i64 s1) (h3 : Lo.i64 s3) (h4 : Lo.i64 s4) (R : ByteArray) (hR : Le.t (Lo.line ⟨9, i, n, t, b, e, s0, s1, s2, s3, s4, s5⟩) = R) (w : World) :
    Calls Tryz.prog 16 #[.agg #[.int .i64 9, .int .i64 i, .int .i64 n, .int .i64 t, .string b, .int .i64 e, .int .i64 s0, .int .i64 s1, .int .i64 s2, .int .i64 s3, .int .i64 s4, .int .i64 s5]] w fun z w' => z = .returned (.string R) ∧ Below w.heap.size w w' := by
  obtain ⟨NA, hNA⟩ : ∃ x, Le.num i = x := ⟨_, rfl⟩
  obtain ⟨NB, hNB⟩ : ∃ x, Le.num n = x := ⟨_, rfl⟩
  have zA := Lo.num_sz hNA hi
  have zB := Lo.num_sz hNB hn
  have HN := Lib.hid (And.intro hNA (And.intro hNB (And.intro hi hn)))
  have HR : Hid (({ data := #[115, 116, 111, 112] } : ByteArray) = R) := Lib.hid (by rw [← hR]; rfl)
  obtain ⟨X, hX⟩ : ∃ X, w.heap.size = X := ⟨_, rfl⟩
  have HB : Hid (Blk (w.alloc (.cells #[.int .i64 9, .int .i64 i, .int .i64 n, .int .i64 t, .string b, .int .i64 e, .int .i64 s0, .int .i64 s1, .int .i64 s2, .int .i64 s3, .int .i64 s4, .int .i64 s5] 26)) X [.int .i64 9, .int .i64 i, .int .i64 n, .int .i64 t, .string b, .int .i64 e, .int .i64 s0, .int .i64 s1, .int .i64 s2, .int .i64 s3, .int .i64 s4, .int .i64 s5] 26 ∧ Below w.heap.size w (w.alloc (.cells #[.int .i64 9, .int .i64 i, .int .i64 n, .int .i64 t, .string b, .int .i64 e, .int .i64 s0, .int .i64 s1, .int .i64 s2, .int .i64 s3, .int .i64 s4, .int .i64 s5] 26))) := Lib.hid ⟨by rw [← hX]; exact Blk.newA _ _ _, (Below.refl _ _).alloc (Nat.le_refl _) _⟩
  clear hNA hNB hi hn he ht h0 h1 h3 h4 hR hb
  go_enter Tryz.func16, Tryz.ntmps16
  go_upto_region 1 with fail
  clear hX
  revert HB
  generalize (w.alloc (.cells #[.int .i64 9, .int .i64 i, .int .i64 n, .int .i64 t, .string b, .int .i64 e, .int .i64 s0, .int .i64 s1, .int .i64 s2, .int .i64 s3, .int .i64 s4, .int .i64 s5] 26)) = W1
  intro HB
  go_cut [3, 4, 5] from 6 to 15 (fun va vb vc wx => va = .string (({ data := #[32] } : ByteArray) ++ NA) ∧ vb = .string (({ data := #[32] } : ByteArray) ++ NB) ∧ ∃ Y, vc = .pointer (some ⟨Y, 0, none⟩) ∧ Hid ((Blk wx X [.int .i64 9, .int .i64 i, .int .i64 n, .int .i64 t, .string b, .int .i64 e, .int .i64 s0, .int .i64 s1, .int .i64 s2, .int .i64 s3, .int .i64 s4, .int .i64 s5] 26 ∧ Below w.heap.size w wx) ∧ Blk wx Y [.int .i64 s0, .int .i64 s1, .int .i64 s2, .int .i64 s3, .int .i64 s4, .int .i64 s5] 24))
  case first =>
    refine wp_region_env (fun env L w' => (∀ j, L j = true → GP X i n (.agg #[.int .i64 s0, .int .i64 s1, .int .i64 s2, .int .i64 s3, .int .i64 s4, .int .i64 s5]) NA NB j (env j)) ∧ (Blk w' X [.int .i64 9, .int .i64 i, .int .i64 n, .int .i64 t, .string b, .int .i64 e, .int .i64 s0, .int .i64 s1, .int .i64 s2, .int .i64 s3, .int .i64 s4, .int .i64 s5] 26 ∧ Below w.heap.size w w') ∧ RP w w' X (L 10) (L 13) (env 10) [.int .i64 0, .int .i64 0, .int .i64 0, .int .i64 0, .int .i64 0, .int .i64 0] [.int .i64 s0, .int .i64 s1, .int .i64 s2, .int .i64 s3, .int .i64 s4, .int .i64 s5] 24) (fun _ => undef) (by kernel_rfl) (by kernel_rfl) (by kernel_rfl) (by kernel_rfl) ?h0 ?hstep ?hend
    case h0 => exact ⟨by simp, ⟨HB.out.1, HB.out.2.drew⟩, by intro h; simp at h⟩
    case hstep =>
      refine ⟨?o0, ?o1, ?o2, ?o3, ?o4, ?o5, ?o6, ?o7, ?o8, ?o9, ?o10, ?o11, ?o12, ?o13, trivial⟩
      case o0 =>
        intro E env L w' hcl hL hp hd ho2 ⟨hG, hK, hR⟩
        have y1 : E.eval (.tmp 1) = .pointer (some ⟨X, 0, none⟩) := ho2 1 (by kernel_rfl)
        refine wp_val (v := .pointer (some ⟨X, 1, none⟩)) (w' := w') ?_ ⟨_, rfl, envG hG rfl, hK, by simpa [upd, doneL] using hR⟩
        simp only [execOp, y1]
        go_simp
        all_goals omega
      case o1 =>
        intro E env L w' hcl hL hp hd ho2 ⟨hG, hK, hR⟩
        have d0 : L 0 = true := hp ⟨0, .data⟩ (by simp) rfl
        have x0 : E.eval (.tmp 6) = _ := (hd 0 6 d0 rfl (by simp)).trans (hG 0 d0)
        have c1 := hK.1.cell (i := 1) rfl
        refine wp_val (v := .int .i64 i) (w' := w') ?_ ⟨_, rfl, envG hG rfl, hK, by simpa [upd, doneL] using hR⟩
        simp only [execOp, x0]
        go_simp
        all_goals omega
      case o2 =>
        intro E env L w' hcl hL hp hd ho2 ⟨hG, hK, hR⟩
        have d1 : L 1 = true := hp ⟨1, .data⟩ (by simp) rfl
        have x1 : E.eval (.tmp 7) = _ := (hd 1 7 d1 rfl (by simp)).trans (hG 1 d1)
        have hKh := Lib.hid hK
        have hRh := Lib.hid hR
        have z1 : E.tmps[7]?.getD undef = .int .i64 i := by simpa [Act.eval, GP] using x1
        have hGh := Lib.hid hG
        clear hK hR hG x1 hd ho2 hcl hp
        unfold Oper.wp
        simp only [execOp]
        go_simp
        (try rw [z1])
        go_at_call 30
        refine (rl_num i HN.out.2.2.1.1 HN.out.2.2.1.2 NA HN.out.1.symm _).mono ?_
        rintro e1 V1 ⟨rfl, q3⟩
        exact ⟨_, rfl, envG hGh.out rfl, ⟨hKh.out.1.chg (l := []) (Chg.of_fresh q3) (by simp), hKh.out.2.trans (q3.mono hKh.out.2.size)⟩, by have h := hRh.out.below q3; simpa [upd, doneL] using h⟩
      case o3 =>
        intro E env L w' hcl hL hp hd ho2 ⟨hG, hK, hR⟩
        have d2 : L 2 = true := hp ⟨2, .data⟩ (by simp) rfl
        have x2 : E.eval (.tmp 8) = _ := (hd 2 8 d2 rfl (by simp)).trans (hG 2 d2)
        refine wp_val (v := .string (({ data := #[32] } : ByteArray) ++ NA)) (w' := w') ?_ ⟨_, rfl, envG hG rfl, hK, by simpa [upd, doneL] using hR⟩
        simp only [execOp, x2]
        go_simp
        all_goals omega
      case o4 =>
        intro E env L w' hcl hL hp hd ho2 ⟨hG, hK, hR⟩
        have y1 : E.eval (.tmp 1) = .pointer (some ⟨X, 0, none⟩) := ho2 1 (by kernel_rfl)
        refine wp_val (v := .pointer (some ⟨X, 2, none⟩)) (w' := w') ?_ ⟨_, rfl, envG hG rfl, hK, by simpa [upd, doneL] using hR⟩
        simp only [execOp, y1]
        go_simp
        all_goals omega
      case o5 =>
        intro E env L w' hcl hL hp hd ho2 ⟨hG, hK, hR⟩
        have d4 : L 4 = true := hp ⟨4, .data⟩ (by simp) rfl
        have x4 : E.eval (.tmp 10) = _ := (hd 4 10 d4 rfl (by simp)).trans (hG 4 d4)
        have c2 := hK.1.cell (i := 2) rfl
        refine wp_val (v := .int .i64 n) (w' := w') ?_ ⟨_, rfl, envG hG rfl, hK, by simpa [upd, doneL] using hR⟩
        simp only [execOp, x4]
        go_simp
        all_goals omega
      case o6 =>
        intro E env L w' hcl hL hp hd ho2 ⟨hG, hK, hR⟩
        have d5 : L 5 = true := hp ⟨5, .data⟩ (by simp) rfl
        have x5 : E.eval (.tmp 11) = _ := (hd 5 11 d5 rfl (by simp)).trans (hG 5 d5)
        have hKh := Lib.hid hK
        have hRh := Lib.hid hR
        have z1 : E.tmps[11]?.getD undef = .int .i64 n := by simpa [Act.eval, GP] using x5
        have hGh := Lib.hid hG
        clear hK hR hG x5 hd ho2 hcl hp
        unfold Oper.wp
        simp only [execOp]
        go_simp
        (try rw [z1])
        go_at_call 30
        refine (rl_num n HN.out.2.2.2.1 HN.out.2.2.2.2 NB HN.out.2.1.symm _).mono ?_
        rintro e1 V1 ⟨rfl, q3⟩
        exact ⟨_, rfl, envG hGh.out rfl, ⟨hKh.out.1.chg (l := []) (Chg.of_fresh q3) (by simp), hKh.out.2.trans (q3.mono hKh.out.2.size)⟩, by have h := hRh.out.below q3; simpa [upd, doneL] using h⟩
      case o7 =>
        intro E env L w' hcl hL hp hd ho2 ⟨hG, hK, hR⟩
        have d6 : L 6 = true := hp ⟨6, .data⟩ (by simp) rfl
        have x6 : E.eval (.tmp 12) = _ := (hd 6 12 d6 rfl (by simp)).trans (hG 6 d6)
        refine wp_val (v := .string (({ data := #[32] } : ByteArray) ++ NB)) (w' := w') ?_ ⟨_, rfl, envG hG rfl, hK, by simpa [upd, doneL] using hR⟩
        simp only [execOp, x6]
        go_simp
        all_goals omega
      case o8 =>
        intro E env L w' hcl hL hp hd ho2 ⟨hG, hK, hR⟩
        have y1 : E.eval (.tmp 1) = .pointer (some ⟨X, 0, none⟩) := ho2 1 (by kernel_rfl)
        refine wp_val (v := .pointer (some ⟨X, 6, none⟩)) (w' := w') ?_ ⟨_, rfl, envG hG rfl, hK, by simpa [upd, doneL] using hR⟩
        simp only [execOp, y1]
        go_simp
        all_goals omega
      case o9 =>
        intro E env L w' hcl hL hp hd ho2 ⟨hG, hK, hR⟩
        have d8 : L 8 = true := hp ⟨8, .data⟩ (by simp) rfl
        have x8 : E.eval (.tmp 14) = _ := (hd 8 14 d8 rfl (by simp)).trans (hG 8 d8)
        have c6 := hK.1.cell (i := 6) rfl
        have c7 := hK.1.cell (i := 7) rfl
        have c8 := hK.1.cell (i := 8) rfl
        have c9 := hK.1.cell (i := 9) rfl
        have c10 := hK.1.cell (i := 10) rfl
        have c11 := hK.1.cell (i := 11) rfl
        refine wp_val (v := .agg #[.int .i64 s0, .int .i64 s1, .int .i64 s2, .int .i64 s3, .int .i64 s4, .int .i64 s5]) (w' := w') ?_ ⟨_, rfl, envG hG rfl, hK, by simpa [upd, doneL] using hR⟩
        simp only [execOp, x8]
        go_simp
        all_goals omega
      case o10 =>
        intro E env L w' hcl hL hp hd ho2 ⟨hG, hK, hR⟩
        have hs := hK.2.size
        have hx := hK.1.lt
        have ka : Below w'.heap.size w' (w'.alloc (.cells #[.int .i64 0, .int .i64 0, .int .i64 0, .int .i64 0, .int .i64 0, .int .i64 0] 24)) := (Below.refl _ _).alloc (Nat.le_refl _) _
        have h13 : L 13 = false := by
          cases h0 : L 13 with
          | false => rfl
          | true =>
            have h1 := hcl 13 _ rfl h0 ⟨10, .data⟩ (by simp) rfl
            exact absurd (h1.symm.trans hL) (by simp)
        refine wp_val (v := .pointer (some ⟨w'.heap.size, 0, none⟩)) (w' := w'.alloc (.cells #[.int .i64 0, .int .i64 0, .int .i64 0, .int .i64 0, .int .i64 0, .int .i64 0] 24)) ?_ ⟨_, rfl, envG hG trivial, ⟨hK.1.chg (l := []) (Chg.of_fresh ka) (by simp), hK.2.trans (ka.mono hK.2.size)⟩, fun _ => ⟨w'.heap.size, by simp [upd], hs, by omega, by simp only [doneL, show (13 : Nat) ≠ 10 by decide, h13]; simpa [h13] using Blk.newA w' #[.int .i64 0, .int .i64 0, .int .i64 0, .int .i64 0, .int .i64 0, .int .i64 0] 24⟩⟩
        simp only [execOp]
        go_simp
      case o11 =>
        intro E env L w' hcl hL hp hd ho2 ⟨hG, hK, hR⟩
        have d3 : L 3 = true := hp ⟨3, .data⟩ (by simp) rfl
        have x3 : E.eval (.tmp 9) = _ := (hd 3 9 d3 rfl (by simp)).trans (hG 3 d3)
        refine wp_val (v := .string (({ data := #[32] } : ByteArray) ++ NA)) (w' := w') ?_ ⟨_, rfl, envG hG rfl, hK, by simpa [upd, doneL] using hR⟩
        simp only [execOp, x3]
        go_simp
        all_goals omega
      case o12 =>
        intro E env L w' hcl hL hp hd ho2 ⟨hG, hK, hR⟩
        have d7 : L 7 = true := hp ⟨7, .data⟩ (by simp) rfl
        have x7 : E.eval (.tmp 13) = _ := (hd 7 13 d7 rfl (by simp)).trans (hG 7 d7)
        refine wp_val (v := .string (({ data := #[32] } : ByteArray) ++ NB)) (w' := w') ?_ ⟨_, rfl, envG hG rfl, hK, by simpa [upd, doneL] using hR⟩
        simp only [execOp, x7]
        go_simp
        all_goals omega
      case o13 =>
        intro E env L w' hcl hL hp hd ho2 ⟨hG, hK, hR⟩
        have d9 : L 9 = true := hp ⟨9, .data⟩ (by simp) rfl
        have x9 : E.eval (.tmp 15) = _ := (hd 9 15 d9 rfl (by simp)).trans (hG 9 d9)
        have d10 : L 10 = true := hp ⟨10, .data⟩ (by simp) rfl
        obtain ⟨Y, e10, hY, hYX, hB⟩ := hR d10
        have x10 : E.eval (.tmp 5) = .pointer (some ⟨Y, 0, none⟩) := (hd 10 5 d10 rfl (by simp)).trans e10
        rw [if_neg (by rw [hL]; simp)] at hB
        have y0 := hB.cell (i := 0) rfl
        have f0 := hB.free 0
        have y1 := hB.cell (i := 1) rfl
        have f1 := hB.free 1
        have y2 := hB.cell (i := 2) rfl
        have f2 := hB.free 2
        have y3 := hB.cell (i := 3) rfl
        have f3 := hB.free 3
        have y4 := hB.cell (i := 4) rfl
        have f4 := hB.free 4
        have y5 := hB.cell (i := 5) rfl
        have f5 := hB.free 5
        have kc : Chg [Y] w' ((((((w'.setCell ⟨Y, 0, none⟩ (.int .i64 s0)).setCell ⟨Y, 1, none⟩ (.int .i64 s1)).setCell ⟨Y, 2, none⟩ (.int .i64 s2)).setCell ⟨Y, 3, none⟩ (.int .i64 s3)).setCell ⟨Y, 4, none⟩ (.int .i64 s4)).setCell ⟨Y, 5, none⟩ (.int .i64 s5)) := (((((((Chg.refl [Y] w').set (Or.inl (List.mem_singleton.2 rfl)) 0 (.int .i64 s0)).set (Or.inl (List.mem_singleton.2 rfl)) 1 (.int .i64 s1)).set (Or.inl (List.mem_singleton.2 rfl)) 2 (.int .i64 s2)).set (Or.inl (List.mem_singleton.2 rfl)) 3 (.int .i64 s3)).set (Or.inl (List.mem_singleton.2 rfl)) 4 (.int .i64 s4)).set (Or.inl (List.mem_singleton.2 rfl)) 5 (.int .i64 s5))
        refine wp_skp (w' := ((((((w'.setCell ⟨Y, 0, none⟩ (.int .i64 s0)).setCell ⟨Y, 1, none⟩ (.int .i64 s1)).setCell ⟨Y, 2, none⟩ (.int .i64 s2)).setCell ⟨Y, 3, none⟩ (.int .i64 s3)).setCell ⟨Y, 4, none⟩ (.int .i64 s4)).setCell ⟨Y, 5, none⟩ (.int .i64 s5))) ?_ ⟨_, rfl, envG hG trivial, ⟨hK.1.chg kc (by simp; omega), kc.onto hK.2 hK.2.size (by simp; omega)⟩, fun _ => ⟨Y, by simpa [upd] using e10, hY, hYX, by simp only [doneL]; exact ((((((hB.set 0 (.int .i64 s0)).set 1 (.int .i64 s1)).set 2 (.int .i64 s2)).set 3 (.int .i64 s3)).set 4 (.int .i64 s4)).set 5 (.int .i64 s5))⟩⟩
        simp only [execOp, x9, x10]
        go_simp
    case hend =>
      intro env w' ⟨hG, hK, hR⟩
      obtain ⟨Y, e10, hY, hYX, hBY⟩ := hR rfl
      rw [if_pos (by simp)] at hBY
      have HZ := Lib.hid (And.intro hK hBY)
      have e11 : env 11 = _ := hG 11 rfl
      have e12 : env 12 = _ := hG 12 rfl
      clear hK hBY hR hG
      simp only [putsE, Act.put, e10, e11, e12, List.setIfInBounds_toArray, List.set_cons_zero, List.set_cons_succ]
      go_wp2_with fail
      go_meet
      exact ⟨rfl, rfl, Y, rfl, HZ⟩
  case rest =>
    obtain ⟨rfl, rfl, Y, rfl, HZ⟩ := hcut
    clear HB
    have HC := Lib.hid HZ.out.1
    have d0 := HC.out.1.cell (i := 0) rfl
    have d1 := HC.out.1.cell (i := 1) rfl
    have d2 := HC.out.1.cell (i := 2) rfl
    have d3 := HC.out.1.cell (i := 3) rfl
    have d4 := HC.out.1.cell (i := 4) rfl
    have d5 := HC.out.1.cell (i := 5) rfl
    have d6 := HC.out.1.cell (i := 6) rfl
    have d7 := HC.out.1.cell (i := 7) rfl
    have d8 := HC.out.1.cell (i := 8) rfl
    have d9 := HC.out.1.cell (i := 9) rfl
    have d10 := HC.out.1.cell (i := 10) rfl
    have d11 := HC.out.1.cell (i := 11) rfl
    go_wp2_with fail
    go_ret
    exact ⟨by rw [← HR.out] <;> rfl, HC.out.2⟩
end Go.Proofs.YtfhhkmjjifbfeaaGreatDoor
