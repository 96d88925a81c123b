/- The document's own answer for purses, second half: what changes them. -/
import Derived.Test.YticdpcbmnahenaaPurRef
namespace Go.Proofs.Yticdpcbmnahenaa
open Go.ChangeShapes Go.WideShapes Go.ChangeAt Go.RowKit
set_option linter.unusedSimpArgs false
set_option linter.unusedVariables false

theorem infoo : (Try.prog.info? 78).map (fun i => (i.zero, i.size, i.bytes)) = some (some (.agg #[.int .i64 0, .int .i64 0]), 2, 16) := by kernel_rfl
theorem two_cell (w : World) (y z : Int) (T : TypeId) (j : Nat) (u : Value) (hj : [pv y, pv z][j]? = some u) : (w.alloc (.cells #[.int .i64 y, .int .i64 z] T)).cell? ((⟨w.heap.size, 0, none⟩ : Addr).add j) = some u := by
  have h := Blk.newA w #[.int .i64 y, .int .i64 z] T
  cases j with
  | zero => simp at hj; subst hj; exact h.cell (i := 0) rfl
  | succ j =>
    cases j with
    | zero => simp at hj; subst hj; exact h.cell (i := 1) rfl
    | succ j => simp at hj
theorem two_one (y z : Int) : ∀ u ∈ [pv y, pv z], u.oneCell' = true := by
  intro u hu
  simp at hu
  rcases hu with rfl | rfl <;> rfl
/-- The new list stands at g; the box and the result's cells are one's own. -/
def SS (w0 w : World) (B : Nat) (bc : List Value) (Rb : Nat) (rc : List Value) (g cap : Nat) (N : List (Int × Int)) : Prop :=
  Blk w B bc 30 ∧ Blk w Rb rc 30 ∧ Rn w g cap 2 (prs N) 78 ∧ Below w0.heap.size w0 w ∧ (B ≠ Rb ∧ g ≠ B ∧ g ≠ Rb) ∧ w0.heap.size ≤ g ∧ w0.heap.size ≤ B ∧ w0.heap.size ≤ Rb
theorem SS.alloc {w0 w : World} {B : Nat} {bc : List Value} {Rb : Nat} {rc : List Value} {g cap : Nat} {N : List (Int × Int)} (s : SS w0 w B bc Rb rc g cap N) (o : Obj) : SS w0 (w.alloc o) B bc Rb rc g cap N := by
  obtain ⟨s1, s2, s3, s4, s5, s6⟩ := s
  exact ⟨s1.alloc o, s2.alloc o, s3.chg ((Chg.refl [] w).alloc o) (by simp), s4.alloc (s4.size) o, s5, s6⟩
theorem SS.app {w0 w w' : World} {B : Nat} {bc : List Value} {Rb : Nat} {rc : List Value} {g cap g' cap' : Nat} {N : List (Int × Int)} {y z : Int} (s : SS w0 w B bc Rb rc g cap N) (r : Rn w' g' cap' 2 (prs N ++ [pv y, pv z]) 78) (hg : g' = g ∨ w.heap.size ≤ g') (k : Chg [g] w w') : SS w0 w' B bc Rb rc g' cap' (N ++ [(y, z)]) := by
  obtain ⟨s1, s2, s3, s4, s5, s6, s7, s8⟩ := s
  have l1 := s1.lt
  have l2 := s2.lt
  have hs := s4.size
  refine ⟨s1.chg k (by simp; omega), s2.chg k (by simp; omega), by rw [prs_append]; exact r, k.onto s4 hs (by simp; omega), ?_, ?_, s7, s8⟩
  · rcases hg with e | e <;> omega
  · rcases hg with e | e <;> omega
theorem SS.store {w0 w : World} {B : Nat} {x y v u : Value} {Rb : Nat} {rc : List Value} {g cap : Nat} {N : List (Int × Int)} (s : SS w0 w B [x, y, v] Rb rc g cap N) : SS w0 (w.setCell ⟨B, 2, none⟩ u) B [x, y, u] Rb rc g cap N := by
  obtain ⟨s1, s2, s3, s4, s5, s6⟩ := s
  have k := (Chg.refl [B] w).set (b := B) (Or.inl (by simp)) 2 u
  exact ⟨s1.set 2 u, s2.chg k (by simp; omega), s3.chg k (by simp; omega), k.onto s4 s4.size (by simp; omega), s5, s6⟩
theorem SS.result {w0 w : World} {B : Nat} {bc : List Value} {Rb : Nat} {x y v a b c : Value} {g cap : Nat} {N : List (Int × Int)} (s : SS w0 w B bc Rb [x, y, v] g cap N) : SS w0 (((w.setCell ⟨Rb, 0, none⟩ a).setCell ⟨Rb, 1, none⟩ b).setCell ⟨Rb, 2, none⟩ c) B bc Rb [a, b, c] g cap N := by
  obtain ⟨s1, s2, s3, s4, s5, s6⟩ := s
  have k := (((Chg.refl [Rb] w).set (b := Rb) (Or.inl (by simp)) 0 a).set (b := Rb) (Or.inl (by simp)) 1 b).set (b := Rb) (Or.inl (by simp)) 2 c
  exact ⟨s1.chg k (by simp; omega), ((s2.set 0 a).set 1 b).set 2 c, s3.chg k (by simp; omega), k.onto s4 s4.size (by simp; omega), s5, s6⟩
set_option maxRecDepth 20000 in
set_option maxHeartbeats 4000000 in
theorem ref_set (Mo q : Int) (lo : Nat) (a : Option Addr) (M : List (Int × Int)) (c : Nat) (id v : Int) (w : World) (hl : M.length ≤ 1000) (hc : M.length ≤ c ∧ c ≤ 9223372036854775807) (h : RL w lo a M) :
    Calls Try.prog 49 #[.agg #[.int .i64 Mo, .int .i64 q, .slice a M.length c], .int .i64 id, .int .i64 v] w fun e w' => ∃ g c', e = .returned (.agg #[.int .i64 Mo, .int .i64 q, .slice (some ⟨g, 0, none⟩) (lSet Mo M id v).length c']) ∧ RL w' w.heap.size (some ⟨g, 0, none⟩) (lSet Mo M id v) ∧ Below w.heap.size w w' ∧ (lSet Mo M id v).length ≤ c' ∧ c' ≤ 9223372036854775807 := by
  obtain ⟨n, hn⟩ : ∃ n, M.length = n := ⟨_, rfl⟩
  have HN := Lib.hid hn
  have HR := Lib.hid h
  obtain ⟨N9, hN9⟩ : ∃ N9, lSet Mo M id v = N9 := ⟨_, rfl⟩
  have H9 := Lib.hid hN9
  rw [hN9]
  obtain ⟨n9, hn9⟩ : ∃ n9, N9.length = n9 := ⟨_, rfl⟩
  have HN9 := Lib.hid hn9
  rw [hn9]
  rw [hn] at hl hc ⊢
  clear hn h hN9 hn9
  go_enter Try.func49, Try.ntmps49
  go_upto_region 2 with fail
  have HS : Hid (SS w (((w.alloc (Obj.cells #[.int .i64 Mo, .int .i64 q, .slice a n c] 30)).alloc (Obj.cells #[.int .i64 0, .int .i64 0, .slice none 0 0] 30)).alloc (Obj.cells #[] 78)) w.heap.size [.int .i64 Mo, .int .i64 q, .slice a n c] (w.heap.size + 1) [.int .i64 0, .int .i64 0, .slice none 0 0] (w.heap.size + 1 + 1) 0 []) := by
    refine Lib.hid ⟨((Blk.newA w _ _).alloc _).alloc _, ?_, ?_, (((Below.refl _ _).alloc (Nat.le_refl _) _).alloc (by simp) _).alloc (by simp; omega) _, by omega, by omega, by omega, by omega⟩
    · have h := Blk.newA (w.alloc (Obj.cells #[.int .i64 Mo, .int .i64 q, .slice a n c] 30)) #[.int .i64 0, .int .i64 0, .slice none 0 0] 30
      rw [World.size_alloc] at h
      exact h.alloc _
    · have h := Rn.empty ((w.alloc (Obj.cells #[.int .i64 Mo, .int .i64 q, .slice a n c] 30)).alloc (Obj.cells #[.int .i64 0, .int .i64 0, .slice none 0 0] 30)) 2 78
      rw [World.size_alloc, World.size_alloc] at h
      exact h
  revert HS
  generalize ((w.alloc (Obj.cells #[.int .i64 Mo, .int .i64 q, .slice a n c] 30)).alloc (Obj.cells #[.int .i64 0, .int .i64 0, .slice none 0 0] 30)).alloc (Obj.cells #[] 78) = W
  generalize w.heap.size + 1 + 1 = g0
  generalize w.heap.size + 1 = Rb
  generalize hB : w.heap.size = B
  intro HS
  rw [hB] at *
  go_wp2_with fail
  go_loopw [7, 8] (fun l i wr => ∃ (k g cp : Nat) (N : List (Int × Int)), l = .slice (some ⟨g, 0, none⟩) N.length cp ∧ i = .int .i64 k ∧ k ≤ n ∧ N.length ≤ k ∧ Hid (N = lCut (M.take k) id) ∧ Hid (SS w wr B [.int .i64 Mo, .int .i64 q, .slice a n c] Rb [.int .i64 0, .int .i64 0, .slice none 0 0] g cp N)) (fun _ i _ => n - (intOf i).toNat)
  case atStart => exact ⟨0, g0, 0, [], rfl, rfl, by omega, by simp, Lib.hid (by simp [lCut]), HS⟩
  case round =>
    clear HS
    obtain ⟨k, g, cp, N, rfl, rfl, hk, hNk, HK, HS⟩ := hrel
    have b2 := HS.out.1.cell (i := 2) rfl
    by_cases hkn : k < n
    · have hkl : k < M.length := by rw [HN.out]; exact hkn
      obtain ⟨g1, e, d1, d2, hg1⟩ := (HR.out.fresh HS.out.2.2.2.1).cells hkl
      subst e
      obtain ⟨y, hy⟩ : ∃ y, M[k].1 = y := ⟨_, rfl⟩
      obtain ⟨z, hz⟩ : ∃ z, M[k].2 = z := ⟨_, rfl⟩
      have HT := Lib.hid (lCut_take M id k hkl)
      rw [hy, hz] at HT
      rw [hy] at d1
      rw [hz] at d2
      have i1 : (k : Int) < (n : Int) := by omega
      have i0 : (0 : Int) ≤ (k : Int) := by omega
      by_cases e : y = id
      · have HK2 : Hid (N = lCut (M.take (k + 1)) id) := Lib.hid (by rw [HT.out, if_pos e]; exact HK.out)
        have e3 : (y == id) = true := by simpa using e
        clear hy hz
        go_wp2_with fail
        refine ⟨?_, ?measure⟩
        case measure => simp [intOf]; omega
        first
          | exact ⟨k + 1, g, cp, N, rfl, by go_num, by omega, by omega, HK2, HS⟩
          | ((repeat apply Exists.intro); exact ⟨⟨k + 1, g, cp, N, rfl, by go_num, by omega, by omega, HK2, HS⟩, rfl⟩)
      · have e3 : (y == id) = false := by simpa using e
        have HK2 : Hid (N ++ [(y, z)] = lCut (M.take (k + 1)) id) := Lib.hid (by rw [HT.out, if_neg e, ← HK.out])
        clear hy hz
        go_wp2_with (at_builtin; refine wpList_append_rn _ rfl (.tmp 25) (.tmp 31) 28 28 rfl 78 (.agg #[.int .i64 0, .int .i64 0]) 2 16 Try.underlying28 infoo rfl g _ cp (prs N) rfl (prs_length N) (HS.out.alloc _).2.2.1 _ rfl 1 [pv y, pv z] (Src.ofSlice _ Try.underlying28 ⟨wr.heap.size, 0, none⟩ 1 1 [pv y, pv z] rfl (two_cell _ _ _ _) (two_one y z)) (by omega) (by omega) ?_; intro g3 c3 w3 r1 r2 r3; have HS3 := Lib.hid ((HS.out.alloc _).app r1 r2 r3); clear r1 r2 r3)
        refine ⟨?_, ?measure⟩
        case measure => simp [intOf]; omega
        first
          | exact ⟨k + 1, g3, c3, N ++ [(y, z)], by rw [List.length_append]; rfl, by go_num, by omega, by rw [List.length_append]; simp; omega, HK2, HS3⟩
          | ((repeat apply Exists.intro); exact ⟨⟨k + 1, g3, c3, N ++ [(y, z)], by rw [List.length_append]; rfl, by go_num, by omega, by rw [List.length_append]; simp; omega, HK2, HS3⟩, rfl⟩)
    · obtain rfl : k = n := by omega
      have HK2 : Hid (N = lCut M id) := Lib.hid (by have h := HK.out; rw [List.take_of_length_le (by rw [HN.out]; exact Nat.le_refl _)] at h; exact h)
      have b0 := HS.out.1.cell (i := 0) rfl
      obtain ⟨cv, hcv⟩ : ∃ cv, clampI v 0 2000000000 = cv := ⟨_, rfl⟩
      have HCV := Lib.hid hcv
      clear hcv
      by_cases hid : 0 ≤ id ∧ id < Mo
      · have HE : Hid (N ++ [(id, cv)] = N9) := Lib.hid (by rw [← H9.out]; unfold lSet; rw [if_pos hid, ← HK2.out, HCV.out])
        have hlen : N.length + 1 = n9 := by have := HN9.out; rw [← HE.out, List.length_append] at this; simpa using this
        have j1 := hid.1
        have j2 := hid.2
        clear hid
        go_upto_region 9 with (first
          | (go_at_call 21; refine (within_any v 0 2000000000 _ (by omega)).mono ?_; rintro e w' ⟨rfl, rfl⟩; rw [HCV.out])
          | (at_builtin; refine wpList_append_rn _ rfl (.tmp 41) (.tmp 46) 28 28 rfl 78 (.agg #[.int .i64 0, .int .i64 0]) 2 16 Try.underlying28 infoo rfl g _ cp (prs N) rfl (prs_length N) (HS.out.alloc _).2.2.1 _ rfl 1 [pv id, pv cv] (Src.ofSlice _ Try.underlying28 ⟨wr.heap.size, 0, none⟩ 1 1 [pv id, pv cv] rfl (two_cell _ _ _ _) (two_one id cv)) (by omega) (by omega) ?_; intro g3 c3 w3 r1 r2 r3; have HS3 := Lib.hid ((HS.out.alloc _).app r1 r2 r3); clear r1 r2 r3))
        have p2 := HS3.out.1.cell (i := 2) rfl
        have pf := HS3.out.1.free 2
        go_upto_region 10 with fail
        clear p2 pf
        have HS10 := Lib.hid (SS.store (u := .slice (some ⟨g3, 0, none⟩) n9 c3) HS3.out)
        revert HS10
        generalize w3.setCell ⟨B, 2, none⟩ (.slice (some ⟨g3, 0, none⟩) n9 c3) = W10
        intro HS10
        have q0 := HS10.out.1.cell (i := 0) rfl
        have q1 := HS10.out.1.cell (i := 1) rfl
        have q2 := HS10.out.1.cell (i := 2) rfl
        have r0 := HS10.out.2.1.cell (i := 0) rfl
        have r1 := HS10.out.2.1.cell (i := 1) rfl
        have r2 := HS10.out.2.1.cell (i := 2) rfl
        have f0 := HS10.out.2.1.free 0
        have f1 := HS10.out.2.1.free 1
        have f2 := HS10.out.2.1.free 2
        go_wp2_with fail
        have HS11 := Lib.hid (SS.result (a := .int .i64 Mo) (b := .int .i64 q) (c := .slice (some ⟨g3, 0, none⟩) n9 c3) HS10.out)
        clear q0 q1 q2 r0 r1 r2 f0 f1 f2
        revert HS11
        generalize ((W10.setCell ⟨Rb, 0, none⟩ (.int .i64 Mo)).setCell ⟨Rb, 1, none⟩ (.int .i64 q)).setCell ⟨Rb, 2, none⟩ (.slice (some ⟨g3, 0, none⟩) n9 c3) = W11
        intro HS11
        have r0 := HS11.out.2.1.cell (i := 0) rfl
        have r1 := HS11.out.2.1.cell (i := 1) rfl
        have r2 := HS11.out.2.1.cell (i := 2) rfl
        refine bodyPost_ret (v := .agg #[.int .i64 Mo, .int .i64 q, .slice (some ⟨g3, 0, none⟩) n9 c3]) (by simp [results, Try.results49, go_sem, r0, r1, r2]) rfl ?_
        have hrn := HS11.out.2.2.1
        have hln := hrn.len
        rw [prs_length] at hln
        refine ⟨g3, c3, rfl, ?_, HS11.out.2.2.2.1, ?_, by obtain ⟨_, _, h, _⟩ := hrn; exact h⟩
        · rw [← HE.out]; exact RL.of_rn hrn HS11.out.2.2.2.2.2.1
        · have := HE.out; have := HN9.out; subst this; rw [← HE.out]; omega
      · have HE : Hid (N = N9) := Lib.hid (by rw [← H9.out]; unfold lSet; rw [if_neg hid, ← HK2.out])
        have hlen : N.length = n9 := by rw [HE.out]; exact HN9.out
        by_cases j1 : 0 ≤ id
        · have j2 : ¬ id < Mo := fun h => hid ⟨j1, h⟩
          clear hid
          have p2 := HS.out.1.cell (i := 2) rfl
          have pf := HS.out.1.free 2
          go_upto_region 10 with fail
          clear p2 pf
          have HS10 := Lib.hid (SS.store (u := .slice (some ⟨g, 0, none⟩) n9 cp) HS.out)
          revert HS10
          generalize wr.setCell ⟨B, 2, none⟩ (.slice (some ⟨g, 0, none⟩) n9 cp) = W10
          intro HS10
          have q0 := HS10.out.1.cell (i := 0) rfl
          have q1 := HS10.out.1.cell (i := 1) rfl
          have q2 := HS10.out.1.cell (i := 2) rfl
          have r0 := HS10.out.2.1.cell (i := 0) rfl
          have r1 := HS10.out.2.1.cell (i := 1) rfl
          have r2 := HS10.out.2.1.cell (i := 2) rfl
          have f0 := HS10.out.2.1.free 0
          have f1 := HS10.out.2.1.free 1
          have f2 := HS10.out.2.1.free 2
          go_wp2_with fail
          have HS11 := Lib.hid (SS.result (a := .int .i64 Mo) (b := .int .i64 q) (c := .slice (some ⟨g, 0, none⟩) n9 cp) HS10.out)
          clear q0 q1 q2 r0 r1 r2 f0 f1 f2
          revert HS11
          generalize ((W10.setCell ⟨Rb, 0, none⟩ (.int .i64 Mo)).setCell ⟨Rb, 1, none⟩ (.int .i64 q)).setCell ⟨Rb, 2, none⟩ (.slice (some ⟨g, 0, none⟩) n9 cp) = W11
          intro HS11
          have r0 := HS11.out.2.1.cell (i := 0) rfl
          have r1 := HS11.out.2.1.cell (i := 1) rfl
          have r2 := HS11.out.2.1.cell (i := 2) rfl
          refine bodyPost_ret (v := .agg #[.int .i64 Mo, .int .i64 q, .slice (some ⟨g, 0, none⟩) n9 cp]) (by simp [results, Try.results49, go_sem, r0, r1, r2]) rfl ?_
          have hrn := HS11.out.2.2.1
          have hln := hrn.len
          rw [prs_length] at hln
          refine ⟨g, cp, rfl, ?_, HS11.out.2.2.2.1, ?_, by obtain ⟨_, _, h, _⟩ := hrn; exact h⟩
          · rw [← HE.out]; exact RL.of_rn hrn HS11.out.2.2.2.2.2.1
          · have := HE.out; have := HN9.out; subst this; rw [← HE.out]; omega
        · clear hid
          have p2 := HS.out.1.cell (i := 2) rfl
          have pf := HS.out.1.free 2
          go_upto_region 10 with fail
          clear p2 pf
          have HS10 := Lib.hid (SS.store (u := .slice (some ⟨g, 0, none⟩) n9 cp) HS.out)
          revert HS10
          generalize wr.setCell ⟨B, 2, none⟩ (.slice (some ⟨g, 0, none⟩) n9 cp) = W10
          intro HS10
          have q0 := HS10.out.1.cell (i := 0) rfl
          have q1 := HS10.out.1.cell (i := 1) rfl
          have q2 := HS10.out.1.cell (i := 2) rfl
          have r0 := HS10.out.2.1.cell (i := 0) rfl
          have r1 := HS10.out.2.1.cell (i := 1) rfl
          have r2 := HS10.out.2.1.cell (i := 2) rfl
          have f0 := HS10.out.2.1.free 0
          have f1 := HS10.out.2.1.free 1
          have f2 := HS10.out.2.1.free 2
          go_wp2_with fail
          have HS11 := Lib.hid (SS.result (a := .int .i64 Mo) (b := .int .i64 q) (c := .slice (some ⟨g, 0, none⟩) n9 cp) HS10.out)
          clear q0 q1 q2 r0 r1 r2 f0 f1 f2
          revert HS11
          generalize ((W10.setCell ⟨Rb, 0, none⟩ (.int .i64 Mo)).setCell ⟨Rb, 1, none⟩ (.int .i64 q)).setCell ⟨Rb, 2, none⟩ (.slice (some ⟨g, 0, none⟩) n9 cp) = W11
          intro HS11
          have r0 := HS11.out.2.1.cell (i := 0) rfl
          have r1 := HS11.out.2.1.cell (i := 1) rfl
          have r2 := HS11.out.2.1.cell (i := 2) rfl
          refine bodyPost_ret (v := .agg #[.int .i64 Mo, .int .i64 q, .slice (some ⟨g, 0, none⟩) n9 cp]) (by simp [results, Try.results49, go_sem, r0, r1, r2]) rfl ?_
          have hrn := HS11.out.2.2.1
          have hln := hrn.len
          rw [prs_length] at hln
          refine ⟨g, cp, rfl, ?_, HS11.out.2.2.2.1, ?_, by obtain ⟨_, _, h, _⟩ := hrn; exact h⟩
          · rw [← HE.out]; exact RL.of_rn hrn HS11.out.2.2.2.2.2.1
          · have := HE.out; have := HN9.out; subst this; rw [← HE.out]; omega
end Go.Proofs.Yticdpcbmnahenaa
