/- The document's own answers for slots: New, Close. -/
import Derived.Test.YthofnpcaeopojaaSlMath
namespace Go.Proofs.Ythofnpcaeopojaa
open Go.ChangeShapes Go.WideShapes Go.ChangeAt Go.RowKit
set_option linter.unusedSimpArgs false
set_option linter.unusedVariables false

theorem infoo : (Try.prog.info? 32).map (fun i => (i.zero, i.size, i.bytes)) = some (some (.agg #[.int .i64 0, .int .i64 0]), 2, 16) := by kernel_rfl
theorem within_1k (n r : Int) (h : min (max n 1) 1024 = r) (w : World) : Calls Try.prog 18 #[.int .i64 n, .int .i64 1, .int .i64 1024] w fun e w' => e = .returned (.int .i64 r) ∧ w = w' := by
  by_cases h1 : n < 1
  · obtain rfl : 1 = r := by omega
    go_enter Try.func18, Try.ntmps18
    go_wp2
    go_ret
    exact ⟨rfl, rfl⟩
  · by_cases h2 : 1024 < n
    · obtain rfl : 1024 = r := by omega
      go_enter Try.func18, Try.ntmps18
      go_wp2
      go_ret
      exact ⟨rfl, rfl⟩
    · obtain rfl : n = r := by omega
      go_enter Try.func18, Try.ntmps18
      go_wp2
      go_ret
      exact ⟨rfl, rfl⟩
theorem ref_new (most : Int) (n : Nat) (w : World) (hn : min (max most 1) 1024 = (n : Int)) :
    Calls Try.prog 8 #[.int .i64 most] w fun e w' => e = .returned (.agg #[.slice none 0 0, .int .i64 n, .int .i64 0]) ∧ Below w.heap.size w w' := by
  have HN := Lib.hid hn
  clear hn
  go_enter Try.func8, Try.ntmps8
  go_upto_region 1 with fail
  have HB : Hid (Blk (w.alloc (.cells #[.slice none 0 0, .int .i64 0, .int .i64 0] 27)) w.heap.size [.slice none 0 0, .int .i64 0, .int .i64 0] 27 ∧ Below w.heap.size w (w.alloc (.cells #[.slice none 0 0, .int .i64 0, .int .i64 0] 27))) :=
    Lib.hid ⟨Blk.newA w _ _, (Below.refl _ _).alloc (Nat.le_refl _) _⟩
  revert HB
  generalize w.alloc (.cells #[.slice none 0 0, .int .i64 0, .int .i64 0] 27) = W
  intro HB
  have f0 := HB.out.1.free 0
  have f1 := HB.out.1.free 1
  have f2 := HB.out.1.free 2
  have r0 := HB.out.1.cell (i := 0) rfl
  have r1 := HB.out.1.cell (i := 1) rfl
  have r2 := HB.out.1.cell (i := 2) rfl
  go_wp2_with (go_at_call 18; refine (within_1k most n HN.out _).mono ?_; rintro e w' ⟨rfl, rfl⟩)
  have H11 : Hid (Blk (((W.setCell ⟨w.heap.size, 0, none⟩ (.slice none 0 0)).setCell ⟨w.heap.size, 1, none⟩ (.int .i64 n)).setCell ⟨w.heap.size, 2, none⟩ (.int .i64 0)) w.heap.size [.slice none 0 0, .int .i64 n, .int .i64 0] 27 ∧ Below w.heap.size w (((W.setCell ⟨w.heap.size, 0, none⟩ (.slice none 0 0)).setCell ⟨w.heap.size, 1, none⟩ (.int .i64 n)).setCell ⟨w.heap.size, 2, none⟩ (.int .i64 0))) :=
    Lib.hid ⟨((HB.out.1.set 0 _).set 1 _).set 2 _, ((((Chg.refl [w.heap.size] W).set (b := w.heap.size) (Or.inl (by simp)) 0 _).set (b := w.heap.size) (Or.inl (by simp)) 1 _).set (b := w.heap.size) (Or.inl (by simp)) 2 _).onto HB.out.2 HB.out.2.size (by simp)⟩
  clear f0 f1 f2 r0 r1 r2
  revert H11
  generalize ((W.setCell ⟨w.heap.size, 0, none⟩ (.slice none 0 0)).setCell ⟨w.heap.size, 1, none⟩ (.int .i64 n)).setCell ⟨w.heap.size, 2, none⟩ (.int .i64 0) = W11
  intro H11
  have r0 := H11.out.1.cell (i := 0) rfl
  have r1 := H11.out.1.cell (i := 1) rfl
  have r2 := H11.out.1.cell (i := 2) rfl
  refine bodyPost_ret (v := .agg #[.slice none 0 0, .int .i64 n, .int .i64 0]) (by simp [results, Try.results8, go_sem, r0, r1, r2]) rfl ?_
  exact ⟨rfl, H11.out.2⟩
/-- The new list stands at g; the box and the result's cells are one's own. -/
def SS (w0 w : World) (B : Nat) (bc : List Value) (Rb : Nat) (rc : List Value) (g cap : Nat) (N : List (Int × Int)) : Prop :=
  Blk w B bc 27 ∧ Blk w Rb rc 27 ∧ Rn w g cap 2 (prs N) 32 ∧ Below w0.heap.size w0 w ∧ (B ≠ Rb ∧ g ≠ B ∧ g ≠ Rb) ∧ w0.heap.size ≤ g ∧ w0.heap.size ≤ B ∧ w0.heap.size ≤ Rb
theorem SS.alloc {w0 w : World} {B : Nat} {bc : List Value} {Rb : Nat} {rc : List Value} {g cap : Nat} {N : List (Int × Int)} (s : SS w0 w B bc Rb rc g cap N) (o : Obj) : SS w0 (w.alloc o) B bc Rb rc g cap N := by
  obtain ⟨s1, s2, s3, s4, s5, s6⟩ := s
  exact ⟨s1.alloc o, s2.alloc o, s3.chg ((Chg.refl [] w).alloc o) (by simp), s4.alloc (s4.size) o, s5, s6⟩
theorem SS.app {w0 w w' : World} {B : Nat} {bc : List Value} {Rb : Nat} {rc : List Value} {g cap g' cap' : Nat} {N : List (Int × Int)} {y z : Int} (s : SS w0 w B bc Rb rc g cap N) (r : Rn w' g' cap' 2 (prs N ++ [pv y, pv z]) 32) (hg : g' = g ∨ w.heap.size ≤ g') (k : Chg [g] w w') : SS w0 w' B bc Rb rc g' cap' (N ++ [(y, z)]) := by
  obtain ⟨s1, s2, s3, s4, s5, s6, s7, s8⟩ := s
  have l1 := s1.lt
  have l2 := s2.lt
  have hs := s4.size
  refine ⟨s1.chg k (by simp; omega), s2.chg k (by simp; omega), by rw [prs_append]; exact r, k.onto s4 hs (by simp; omega), ?_, ?_, s7, s8⟩
  · rcases hg with e | e <;> omega
  · rcases hg with e | e <;> omega
theorem SS.store {w0 w : World} {B : Nat} {x y v u : Value} {Rb : Nat} {rc : List Value} {g cap : Nat} {N : List (Int × Int)} (s : SS w0 w B [v, x, y] Rb rc g cap N) : SS w0 (w.setCell ⟨B, 0, none⟩ u) B [u, x, y] Rb rc g cap N := by
  obtain ⟨s1, s2, s3, s4, s5, s6⟩ := s
  have k := (Chg.refl [B] w).set (b := B) (Or.inl (by simp)) 0 u
  exact ⟨s1.set 0 u, s2.chg k (by simp; omega), s3.chg k (by simp; omega), k.onto s4 s4.size (by simp; omega), s5, s6⟩
theorem SS.result {w0 w : World} {B : Nat} {bc : List Value} {Rb : Nat} {x y v a b c : Value} {g cap : Nat} {N : List (Int × Int)} (s : SS w0 w B bc Rb [x, y, v] g cap N) : SS w0 (((w.setCell ⟨Rb, 0, none⟩ a).setCell ⟨Rb, 1, none⟩ b).setCell ⟨Rb, 2, none⟩ c) B bc Rb [a, b, c] g cap N := by
  obtain ⟨s1, s2, s3, s4, s5, s6⟩ := s
  have k := (((Chg.refl [Rb] w).set (b := Rb) (Or.inl (by simp)) 0 a).set (b := Rb) (Or.inl (by simp)) 1 b).set (b := Rb) (Or.inl (by simp)) 2 c
  exact ⟨s1.chg k (by simp; omega), ((s2.set 0 a).set 1 b).set 2 c, s3.chg k (by simp; omega), k.onto s4 s4.size (by simp; omega), s5, s6⟩
set_option maxRecDepth 20000 in
set_option maxHeartbeats 4000000 in
theorem ref_close (Mo q : Int) (lo : Nat) (a : Option Addr) (M : List (Int × Int)) (c : Nat) (id : Int) (w : World) (hl : M.length ≤ 1000) (h : RL w lo a M) :
    Calls Try.prog 14 #[.agg #[.slice a M.length c, .int .i64 Mo, .int .i64 q], .int .i64 id] w fun e w' => ∃ g c', e = .returned (.agg #[.slice (some ⟨g, 0, none⟩) (lOut M id).length c', .int .i64 Mo, .int .i64 q]) ∧ RL w' w.heap.size (some ⟨g, 0, none⟩) (lOut M id) ∧ Below w.heap.size w w' := by
  obtain ⟨n, hn⟩ : ∃ n, M.length = n := ⟨_, rfl⟩
  have HN := Lib.hid hn
  have HR := Lib.hid h
  obtain ⟨N9, hN9⟩ : ∃ N9, lOut M id = N9 := ⟨_, rfl⟩
  have H9 := Lib.hid hN9
  rw [hN9]
  obtain ⟨n9, hn9⟩ : ∃ n9, N9.length = n9 := ⟨_, rfl⟩
  have HN9 := Lib.hid hn9
  rw [hn9]
  rw [hn] at hl ⊢
  clear hn h hN9 hn9
  go_enter Try.func14, Try.ntmps14
  go_upto_region 2 with fail
  have HS : Hid (SS w (((w.alloc (Obj.cells #[.slice a n c, .int .i64 Mo, .int .i64 q] 27)).alloc (Obj.cells #[.slice none 0 0, .int .i64 0, .int .i64 0] 27)).alloc (Obj.cells #[] 32)) w.heap.size [.slice a n c, .int .i64 Mo, .int .i64 q] (w.heap.size + 1) [.slice none 0 0, .int .i64 0, .int .i64 0] (w.heap.size + 1 + 1) 0 []) := by
    refine Lib.hid ⟨((Blk.newA w _ _).alloc _).alloc _, ?_, ?_, (((Below.refl _ _).alloc (Nat.le_refl _) _).alloc (by simp) _).alloc (by simp; omega) _, by omega, by omega, by omega, by omega⟩
    · have h := Blk.newA (w.alloc (Obj.cells #[.slice a n c, .int .i64 Mo, .int .i64 q] 27)) #[.slice none 0 0, .int .i64 0, .int .i64 0] 27
      rw [World.size_alloc] at h
      exact h.alloc _
    · have h := Rn.empty ((w.alloc (Obj.cells #[.slice a n c, .int .i64 Mo, .int .i64 q] 27)).alloc (Obj.cells #[.slice none 0 0, .int .i64 0, .int .i64 0] 27)) 2 32
      rw [World.size_alloc, World.size_alloc] at h
      exact h
  revert HS
  generalize ((w.alloc (Obj.cells #[.slice a n c, .int .i64 Mo, .int .i64 q] 27)).alloc (Obj.cells #[.slice none 0 0, .int .i64 0, .int .i64 0] 27)).alloc (Obj.cells #[] 32) = W
  generalize w.heap.size + 1 + 1 = g0
  generalize w.heap.size + 1 = Rb
  generalize hB : w.heap.size = B
  intro HS
  rw [hB] at *
  go_wp2_with fail
  go_loopw [5, 6] (fun l i wr => ∃ (k g cp : Nat) (N : List (Int × Int)), l = .slice (some ⟨g, 0, none⟩) N.length cp ∧ i = .int .i64 k ∧ k ≤ n ∧ N.length ≤ k ∧ Hid (N = lOut (M.take k) id) ∧ Hid (SS w wr B [.slice a n c, .int .i64 Mo, .int .i64 q] Rb [.slice none 0 0, .int .i64 0, .int .i64 0] g cp N)) (fun _ i _ => n - (intOf i).toNat)
  case atStart => exact ⟨0, g0, 0, [], rfl, rfl, by omega, by simp, Lib.hid (by simp [lOut]), HS⟩
  case round =>
    clear HS
    obtain ⟨k, g, cp, N, rfl, rfl, hk, hNk, HK, HS⟩ := hrel
    have b0 := HS.out.1.cell (i := 0) rfl
    by_cases hkn : k < n
    · have hkl : k < M.length := by rw [HN.out]; exact hkn
      obtain ⟨g1, e, d1, d2, hg1⟩ := (HR.out.fresh HS.out.2.2.2.1).cells hkl
      subst e
      obtain ⟨y, hy⟩ : ∃ y, M[k].1 = y := ⟨_, rfl⟩
      obtain ⟨z, hz⟩ : ∃ z, M[k].2 = z := ⟨_, rfl⟩
      have HT := Lib.hid (lOut_take M id k hkl)
      rw [hy, hz] at HT
      rw [hy] at d1
      rw [hz] at d2
      have i1 : (k : Int) < (n : Int) := by omega
      have i0 : (0 : Int) ≤ (k : Int) := by omega
      by_cases e : y = id
      · have HK2 : Hid (N = lOut (M.take (k + 1)) id) := Lib.hid (by rw [HT.out, if_pos e]; exact HK.out)
        have e3 : (y != id) = false := by simpa using e
        have e4 : (y == id) = true := by simpa using e
        clear hy hz
        go_wp2_with fail
        refine ⟨?_, ?measure⟩
        case measure => simp [intOf]; omega
        first
          | exact ⟨k + 1, g, cp, N, rfl, by go_num, by omega, by omega, HK2, HS⟩
          | ((repeat apply Exists.intro); exact ⟨⟨k + 1, g, cp, N, rfl, by go_num, by omega, by omega, HK2, HS⟩, rfl⟩)
      · have e3 : (y != id) = true := by simpa using e
        have e4 : (y == id) = false := by simpa using e
        have HK2 : Hid (N ++ [(y, z)] = lOut (M.take (k + 1)) id) := Lib.hid (by rw [HT.out, if_neg e, ← HK.out])
        clear hy hz
        go_wp2_with (at_builtin; refine wpList_append_rn _ rfl (.tmp 23) (.tmp 29) 25 25 rfl 32 (.agg #[.int .i64 0, .int .i64 0]) 2 16 Try.underlying25 infoo rfl g _ cp (prs N) rfl (prs_length N) (HS.out.alloc _).2.2.1 _ rfl 1 [pv y, pv z] (Src.ofSlice _ Try.underlying25 ⟨wr.heap.size, 0, none⟩ 1 1 [pv y, pv z] rfl (two_cell _ _ _ _) (two_one y z)) (by omega) (by omega) ?_; intro g3 c3 w3 r1 r2 r3; have HS3 := Lib.hid ((HS.out.alloc _).app r1 r2 r3); clear r1 r2 r3)
        refine ⟨?_, ?measure⟩
        case measure => simp [intOf]; omega
        first
          | exact ⟨k + 1, g3, c3, N ++ [(y, z)], by rw [List.length_append]; rfl, by go_num, by omega, by rw [List.length_append]; simp; omega, HK2, HS3⟩
          | ((repeat apply Exists.intro); exact ⟨⟨k + 1, g3, c3, N ++ [(y, z)], by rw [List.length_append]; rfl, by go_num, by omega, by rw [List.length_append]; simp; omega, HK2, HS3⟩, rfl⟩)
    · obtain rfl : k = n := by omega
      have HK2 : Hid (N = N9) := Lib.hid (by have h := HK.out; rw [List.take_of_length_le (by rw [HN.out]; exact Nat.le_refl _)] at h; exact h.trans H9.out)
      have hlen : N.length = n9 := by rw [HK2.out]; exact HN9.out
      have pf := HS.out.1.free 0
      go_upto_region 8 with fail
      clear b0 pf
      have HS10 := Lib.hid (SS.store (u := .slice (some ⟨g, 0, none⟩) n9 cp) HS.out)
      revert HS10
      generalize wr.setCell ⟨B, 0, none⟩ (.slice (some ⟨g, 0, none⟩) n9 cp) = W10
      intro HS10
      have q0 := HS10.out.1.cell (i := 0) rfl
      have q1 := HS10.out.1.cell (i := 1) rfl
      have q2 := HS10.out.1.cell (i := 2) rfl
      have r0 := HS10.out.2.1.cell (i := 0) rfl
      have r1 := HS10.out.2.1.cell (i := 1) rfl
      have r2 := HS10.out.2.1.cell (i := 2) rfl
      have f0 := HS10.out.2.1.free 0
      have f1 := HS10.out.2.1.free 1
      have f2 := HS10.out.2.1.free 2
      go_wp2_with fail
      have HS11 := Lib.hid (SS.result (a := .slice (some ⟨g, 0, none⟩) n9 cp) (b := .int .i64 Mo) (c := .int .i64 q) HS10.out)
      clear q0 q1 q2 r0 r1 r2 f0 f1 f2
      revert HS11
      generalize ((W10.setCell ⟨Rb, 0, none⟩ (.slice (some ⟨g, 0, none⟩) n9 cp)).setCell ⟨Rb, 1, none⟩ (.int .i64 Mo)).setCell ⟨Rb, 2, none⟩ (.int .i64 q) = W11
      intro HS11
      have r0 := HS11.out.2.1.cell (i := 0) rfl
      have r1 := HS11.out.2.1.cell (i := 1) rfl
      have r2 := HS11.out.2.1.cell (i := 2) rfl
      refine bodyPost_ret (v := .agg #[.slice (some ⟨g, 0, none⟩) n9 cp, .int .i64 Mo, .int .i64 q]) (by simp [results, Try.results14, go_sem, r0, r1, r2]) rfl ?_
      refine ⟨g, cp, rfl, ?_, HS11.out.2.2.2.1⟩
      rw [← HK2.out]; exact RL.of_rn HS11.out.2.2.1 HS11.out.2.2.2.2.2.1
end Go.Proofs.Ythofnpcaeopojaa
