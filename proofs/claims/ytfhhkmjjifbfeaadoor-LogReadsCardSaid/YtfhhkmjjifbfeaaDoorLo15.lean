/- Log: a line read. -/
import Derived.Test.YtfhhkmjjifbfeaaDoorLo14
import Derived.Test.YtfhhkmjjifbfeaaDoorLo11
import Derived.Test.YtfhhkmjjifbfeaaDoorLo12
import Derived.Test.YtfhhkmjjifbfeaaDoorShelf
import Derived.WalkKit
import Derived.ProofKit
import Derived.Handy
import Derived.WalkLawsBesides
import Derived.WalkSpells
import Derived.Lib.Hide
import Derived.Lib.SliceRun
import Derived.Deep.RegionLaw
import Derived.RegionTactic
import Derived.ChangeAlike
import Derived.WalkSmall
import Derived.Deep.QuietTactic
import Derived.BigQuiet
import Derived.OwnWalk
import Derived.Outline
import Derived.Deep.CutRange
import Derived.Deep.CutBlock
import Derived.LoopTactic
namespace Go.Proofs.YtfhhkmjjifbfeaaDoor
open Go.ChangeShapes Go.WideShapes Go.ChangeAt Go.RowKit
set_option linter.unusedSimpArgs false
set_option linter.unusedVariables false

theorem lo_cut (s : ByteArray) (hs : s.size ≤ 1000000) (c1 c2 : ByteArray) (c3 : Bool) (h : Lib.cut s.data.toList [32] = (c1.data.toList, c2.data.toList, c3)) (w : World) (hni : NI w) :
    Calls Tryd.prog 14 #[.string s, .string { data := #[32] }] w fun e w' => e = .returned (.tuple #[.string c1, .string c2, .bool c3]) ∧ Below w.heap.size w w' := by
  obtain ⟨m, hm⟩ := hni.1
  refine (Tryd.strings_Cut s { data := #[32] } m w (by omega) hm).mono ?_
  rintro e w' ⟨rfl, n, rfl⟩
  refine ⟨?_, (by have h := Below.refl w.heap.size w; exact ⟨h.os, h.tape, h.output, h.size, h.block⟩)⟩
  have e1 : ({ data := #[32] } : ByteArray).data.toList = [32] := rfl
  rw [e1, h, Le.t_of (X := c1) rfl, Le.t_of (X := c2) rfl, Le.t_list, Le.t_list]; rfl
theorem lo_split (c : UInt8) (s : ByteArray) (hs : s.size ≤ 1000000) (L : List ByteArray) (hL : Lo.spB c s.data.toList = L) (n : Nat) (hn : L.length = n) (w : World) (hni : NI w) :
    Calls Tryd.prog 10 #[.string s, .string { data := #[c] }] w fun e w' => ∃ bk, e = .returned (.slice (some ⟨bk, 0, none⟩) n n) ∧ Blk w' bk (L.map Value.string) 9 ∧ w.heap.size ≤ bk ∧ Below w.heap.size w w' := by
  obtain ⟨m, hm⟩ := hni.1
  have e1 : Lib.splitB { data := #[c] } 0 (Lib.countB s { data := #[c] }) s = L := by rw [← hL]; exact Lo.split_spB c s
  have e2 : Lib.countB s { data := #[c] } + 1 = n := by
    rw [← hn, ← e1]
    exact (Lib.splitB_all { data := #[c] } (by show 1 ≤ 1; omega) 0 _ s rfl).symm
  refine (Tryd.strings_Split s { data := #[c] } m w (by omega) hm (by show 1 ≤ 1; omega)).mono ?_
  rintro e W1 ⟨rfl, rfl⟩
  refine ⟨w.heap.size, ?_, ?_, Nat.le_refl _, (Below.refl _ _).alloc (Nat.le_refl _) _⟩
  · rw [e2]
  · rw [e1]; exact Blk.new w _ _
theorem Lo.txt_eq {W : ByteArray} {l : List UInt8} (h : W.data.toList = l) : (W.toList == l) = true := by
  rw [beq_iff_eq, Lib.toList_data, h]
theorem Lo.txt_ne {W : ByteArray} {l : List UInt8} (h : ¬ W.data.toList = l) : (W.toList == l) = false := by
  rw [beq_eq_false_iff_ne]
  intro e
  rw [Lib.toList_data] at e
  exact h e
set_option maxRecDepth 20000 in
set_option maxHeartbeats 16000000 in
theorem lo_read (s : ByteArray) (hs : s.size ≤ 4000) (x : Ev) (hx : Lo.read s.data.toList = x) (w : World) (hni : NI w) (hwi : WI w) (hsi : SI w) :
    Calls Tryd.prog 11 #[.string s] w fun e w' => e = .returned (.agg x.c.toArray) ∧ Below w.heap.size w w' := by
  obtain ⟨c1, c2, c3, hc⟩ : ∃ (c1 c2 : ByteArray) (c3 : Bool), Lib.cut s.data.toList [32] = (c1.data.toList, c2.data.toList, c3) := ⟨Le.t (Lib.cut s.data.toList [32]).1, Le.t (Lib.cut s.data.toList [32]).2.1, (Lib.cut s.data.toList [32]).2.2, by rw [Le.t_list, Le.t_list]⟩
  have hle := Lo.cut_le s.data.toList
  have hsz : s.data.toList.length = s.size := rfl
  rw [hc] at hle
  have hc2 : c2.size ≤ 4000 := by
    have h1 : c2.data.toList.length = c2.size := rfl
    have h2 := hle.2
    dsimp only at h2
    omega
  unfold Lo.read at hx
  rw [hc] at hx
  dsimp only at hx
  obtain ⟨L, hL⟩ : ∃ L, Lo.spB 32 c2.data.toList = L := ⟨_, rfl⟩
  obtain ⟨n, hn⟩ : ∃ n, L.length = n := ⟨_, rfl⟩
  have hl2 := Lo.sp_le 32 c2.data.toList
  have hc3 : c2.data.toList.length = c2.size := rfl
  have hn2 : n ≤ 1000000 := by
    rw [← hn, ← hL]; unfold Lo.spB; rw [List.length_map]; omega
  have hlz : ∀ s ∈ L, s.size ≤ 1000000 := by
    intro y hy
    rw [← hL] at hy
    obtain ⟨z, hz, rfl⟩ := List.mem_map.1 hy
    rw [Le.t_size]
    have := hl2.2 z hz
    omega
  have HU := Lib.hid (And.intro hn hlz)
  have HC := Lib.hid (And.intro hc (And.intro hL (And.intro hs hc2)))
  have HI := Lib.hid (And.intro hni (And.intro hwi hsi))
  have HQ : Hid (LQ w (w.alloc (.cells #[.int .i64 0, .int .i64 0, .int .i64 0, .int .i64 0, .string { data := #[] }, .int .i64 0, .int .i64 0, .int .i64 0, .int .i64 0, .int .i64 0, .int .i64 0, .int .i64 0] 32)) w.heap.size) := Lib.hid (LQ.new w)
  clear hle hsz hl2 hc3 hlz hn hc hs hc2 hni hwi hsi
  go_enter Tryd.func11, Tryd.ntmps11
  go_upto_region 1 with fail
  revert HQ
  generalize (w.alloc (.cells #[.int .i64 0, .int .i64 0, .int .i64 0, .int .i64 0, .string { data := #[] }, .int .i64 0, .int .i64 0, .int .i64 0, .int .i64 0, .int .i64 0, .int .i64 0, .int .i64 0] 32)) = W0
  generalize w.heap.size = Q
  intro HQ
  go_upto_region 3 with (first
    | (go_at_call 14; (with_reducible refine (lo_cut s (by have := HC.out.2.2.1; omega) c1 c2 c3 HC.out.1 _ (HI.out.1.below HQ.out.be)).mono ?_); rintro e1 V1 ⟨rfl, q3⟩; have HQn := Lib.hid (HQ.out.below q3); clear HQ; have HQ := HQn; clear HQn q3)
    | (go_at_call 10; (with_reducible refine (lo_split 32 c2 (by have := HC.out.2.2.2; omega) L HC.out.2.1 n HU.out.1 _ (HI.out.1.below HQ.out.be)).mono ?_); rintro e1 V2 ⟨bk, rfl, q1, q2, q3⟩; have HB := Lib.hid (And.intro (HQ.out.below q3) q1); clear HQ q1 q2 q3))
  obtain ⟨v, hv⟩ : ∃ v, (Tx.parse c2.data.toList).1 = v := ⟨_, rfl⟩
  obtain ⟨n0, hn0⟩ : ∃ v, Lo.num (Lo.at L 0).data.toList = v := ⟨_, rfl⟩
  obtain ⟨n1, hn1⟩ : ∃ v, Lo.num (Lo.at L 1).data.toList = v := ⟨_, rfl⟩
  obtain ⟨n2, hn3⟩ : ∃ v, Lo.num (Lo.at L 2).data.toList = v := ⟨_, rfl⟩
  have HV := Lib.hid (And.intro hv (And.intro hn0 (And.intro hn1 hn3)))
  rw [← hL] at hn0 hn1 hn3
  by_cases h0 : c1.data.toList = [114, 111, 117, 110, 100]
  · have HX : Hid ((⟨1, 0, 0, v, { data := #[] }, 0, 0, 0, 0, 0, 0, 0⟩ : Ev) = x) := Lib.hid (by rw [← hx, h0, Lo.rd_round, hv])
    have b0 := Lo.txt_eq h0
    clear hx hv hn0 hn1 hn3 hL h0
    go_wp2_with (first
      | (go_at_call 15; (with_reducible refine (lo_ticks c2 (by have := HC.out.2.2.2; omega) v HV.out.1 _).mono ?_); rintro e1 V3 ⟨rfl, q3⟩; have HBn := Lib.hid (And.intro (HB.out.1.below q3) (HB.out.2.chg (l := []) (Chg.of_fresh q3) (by simp))); clear HB; have HB := HBn; clear HBn q3; have q0 := HB.out.1.bq.cell (i := 0) rfl; have g0 := HB.out.1.bq.free 0; have q1 := HB.out.1.bq.cell (i := 1) rfl; have g1 := HB.out.1.bq.free 1; have q2 := HB.out.1.bq.cell (i := 2) rfl; have g2 := HB.out.1.bq.free 2; have q3 := HB.out.1.bq.cell (i := 3) rfl; have g3 := HB.out.1.bq.free 3; have q4 := HB.out.1.bq.cell (i := 4) rfl; have g4 := HB.out.1.bq.free 4; have q5 := HB.out.1.bq.cell (i := 5) rfl; have g5 := HB.out.1.bq.free 5; have q6 := HB.out.1.bq.cell (i := 6) rfl; have g6 := HB.out.1.bq.free 6; have q7 := HB.out.1.bq.cell (i := 7) rfl; have g7 := HB.out.1.bq.free 7; have q8 := HB.out.1.bq.cell (i := 8) rfl; have g8 := HB.out.1.bq.free 8; have q9 := HB.out.1.bq.cell (i := 9) rfl; have g9 := HB.out.1.bq.free 9; have q10 := HB.out.1.bq.cell (i := 10) rfl; have g10 := HB.out.1.bq.free 10; have q11 := HB.out.1.bq.cell (i := 11) rfl; have g11 := HB.out.1.bq.free 11))
    have HW9 : Hid (Blk ((((((((((((V3.setCell ⟨Q, 0, none⟩ (.int .i64 1)).setCell ⟨Q, 1, none⟩ (.int .i64 0)).setCell ⟨Q, 2, none⟩ (.int .i64 0)).setCell ⟨Q, 3, none⟩ (.int .i64 v)).setCell ⟨Q, 4, none⟩ (.string { data := #[] })).setCell ⟨Q, 5, none⟩ (.int .i64 0)).setCell ⟨Q, 6, none⟩ (.int .i64 0)).setCell ⟨Q, 7, none⟩ (.int .i64 0)).setCell ⟨Q, 8, none⟩ (.int .i64 0)).setCell ⟨Q, 9, none⟩ (.int .i64 0)).setCell ⟨Q, 10, none⟩ (.int .i64 0)).setCell ⟨Q, 11, none⟩ (.int .i64 0)) Q [.int .i64 1, .int .i64 0, .int .i64 0, .int .i64 v, .string { data := #[] }, .int .i64 0, .int .i64 0, .int .i64 0, .int .i64 0, .int .i64 0, .int .i64 0, .int .i64 0] 32 ∧ Below w.heap.size w ((((((((((((V3.setCell ⟨Q, 0, none⟩ (.int .i64 1)).setCell ⟨Q, 1, none⟩ (.int .i64 0)).setCell ⟨Q, 2, none⟩ (.int .i64 0)).setCell ⟨Q, 3, none⟩ (.int .i64 v)).setCell ⟨Q, 4, none⟩ (.string { data := #[] })).setCell ⟨Q, 5, none⟩ (.int .i64 0)).setCell ⟨Q, 6, none⟩ (.int .i64 0)).setCell ⟨Q, 7, none⟩ (.int .i64 0)).setCell ⟨Q, 8, none⟩ (.int .i64 0)).setCell ⟨Q, 9, none⟩ (.int .i64 0)).setCell ⟨Q, 10, none⟩ (.int .i64 0)).setCell ⟨Q, 11, none⟩ (.int .i64 0))) := Lib.hid (HB.out.1.fill _ _ _ _ _ _ _ _ _ _ _ _)
    clear q0 g0 q1 g1 q2 g2 q3 g3 q4 g4 q5 g5 q6 g6 q7 g7 q8 g8 q9 g9 q10 g10 q11 g11
    revert HW9
    generalize ((((((((((((V3.setCell ⟨Q, 0, none⟩ (.int .i64 1)).setCell ⟨Q, 1, none⟩ (.int .i64 0)).setCell ⟨Q, 2, none⟩ (.int .i64 0)).setCell ⟨Q, 3, none⟩ (.int .i64 v)).setCell ⟨Q, 4, none⟩ (.string { data := #[] })).setCell ⟨Q, 5, none⟩ (.int .i64 0)).setCell ⟨Q, 6, none⟩ (.int .i64 0)).setCell ⟨Q, 7, none⟩ (.int .i64 0)).setCell ⟨Q, 8, none⟩ (.int .i64 0)).setCell ⟨Q, 9, none⟩ (.int .i64 0)).setCell ⟨Q, 10, none⟩ (.int .i64 0)).setCell ⟨Q, 11, none⟩ (.int .i64 0)) = W9
    intro HW9
    have r0 := HW9.out.1.cell (i := 0) rfl
    have r1 := HW9.out.1.cell (i := 1) rfl
    have r2 := HW9.out.1.cell (i := 2) rfl
    have r3 := HW9.out.1.cell (i := 3) rfl
    have r4 := HW9.out.1.cell (i := 4) rfl
    have r5 := HW9.out.1.cell (i := 5) rfl
    have r6 := HW9.out.1.cell (i := 6) rfl
    have r7 := HW9.out.1.cell (i := 7) rfl
    have r8 := HW9.out.1.cell (i := 8) rfl
    have r9 := HW9.out.1.cell (i := 9) rfl
    have r10 := HW9.out.1.cell (i := 10) rfl
    have r11 := HW9.out.1.cell (i := 11) rfl
    (try simp only [Exit.inBlock, Exit.then])
    exact bodyPost_ret (v := .agg x.c.toArray) (by rw [← HX.out]; simp [results, Tryd.results11, go_sem, r0, r1, r2, r3, r4, r5, r6, r7, r8, r9, r10, r11, Ev.c]) rfl ⟨rfl, HW9.out.2⟩
  by_cases h1 : c1.data.toList = [100, 114, 97, 105, 110]
  · have HX : Hid ((⟨7, 0, 0, v, { data := #[] }, 0, 0, 0, 0, 0, 0, 0⟩ : Ev) = x) := Lib.hid (by rw [← hx, h1, Lo.rd_drain, hv])
    have b0 := Lo.txt_ne h0
    have b1 := Lo.txt_eq h1
    clear hx hv hn0 hn1 hn3 hL h0 h1
    go_wp2_with (first
      | (go_at_call 15; (with_reducible refine (lo_ticks c2 (by have := HC.out.2.2.2; omega) v HV.out.1 _).mono ?_); rintro e1 V3 ⟨rfl, q3⟩; have HBn := Lib.hid (And.intro (HB.out.1.below q3) (HB.out.2.chg (l := []) (Chg.of_fresh q3) (by simp))); clear HB; have HB := HBn; clear HBn q3; have q0 := HB.out.1.bq.cell (i := 0) rfl; have g0 := HB.out.1.bq.free 0; have q1 := HB.out.1.bq.cell (i := 1) rfl; have g1 := HB.out.1.bq.free 1; have q2 := HB.out.1.bq.cell (i := 2) rfl; have g2 := HB.out.1.bq.free 2; have q3 := HB.out.1.bq.cell (i := 3) rfl; have g3 := HB.out.1.bq.free 3; have q4 := HB.out.1.bq.cell (i := 4) rfl; have g4 := HB.out.1.bq.free 4; have q5 := HB.out.1.bq.cell (i := 5) rfl; have g5 := HB.out.1.bq.free 5; have q6 := HB.out.1.bq.cell (i := 6) rfl; have g6 := HB.out.1.bq.free 6; have q7 := HB.out.1.bq.cell (i := 7) rfl; have g7 := HB.out.1.bq.free 7; have q8 := HB.out.1.bq.cell (i := 8) rfl; have g8 := HB.out.1.bq.free 8; have q9 := HB.out.1.bq.cell (i := 9) rfl; have g9 := HB.out.1.bq.free 9; have q10 := HB.out.1.bq.cell (i := 10) rfl; have g10 := HB.out.1.bq.free 10; have q11 := HB.out.1.bq.cell (i := 11) rfl; have g11 := HB.out.1.bq.free 11))
    have HW9 : Hid (Blk ((((((((((((V3.setCell ⟨Q, 0, none⟩ (.int .i64 7)).setCell ⟨Q, 1, none⟩ (.int .i64 0)).setCell ⟨Q, 2, none⟩ (.int .i64 0)).setCell ⟨Q, 3, none⟩ (.int .i64 v)).setCell ⟨Q, 4, none⟩ (.string { data := #[] })).setCell ⟨Q, 5, none⟩ (.int .i64 0)).setCell ⟨Q, 6, none⟩ (.int .i64 0)).setCell ⟨Q, 7, none⟩ (.int .i64 0)).setCell ⟨Q, 8, none⟩ (.int .i64 0)).setCell ⟨Q, 9, none⟩ (.int .i64 0)).setCell ⟨Q, 10, none⟩ (.int .i64 0)).setCell ⟨Q, 11, none⟩ (.int .i64 0)) Q [.int .i64 7, .int .i64 0, .int .i64 0, .int .i64 v, .string { data := #[] }, .int .i64 0, .int .i64 0, .int .i64 0, .int .i64 0, .int .i64 0, .int .i64 0, .int .i64 0] 32 ∧ Below w.heap.size w ((((((((((((V3.setCell ⟨Q, 0, none⟩ (.int .i64 7)).setCell ⟨Q, 1, none⟩ (.int .i64 0)).setCell ⟨Q, 2, none⟩ (.int .i64 0)).setCell ⟨Q, 3, none⟩ (.int .i64 v)).setCell ⟨Q, 4, none⟩ (.string { data := #[] })).setCell ⟨Q, 5, none⟩ (.int .i64 0)).setCell ⟨Q, 6, none⟩ (.int .i64 0)).setCell ⟨Q, 7, none⟩ (.int .i64 0)).setCell ⟨Q, 8, none⟩ (.int .i64 0)).setCell ⟨Q, 9, none⟩ (.int .i64 0)).setCell ⟨Q, 10, none⟩ (.int .i64 0)).setCell ⟨Q, 11, none⟩ (.int .i64 0))) := Lib.hid (HB.out.1.fill _ _ _ _ _ _ _ _ _ _ _ _)
    clear q0 g0 q1 g1 q2 g2 q3 g3 q4 g4 q5 g5 q6 g6 q7 g7 q8 g8 q9 g9 q10 g10 q11 g11
    revert HW9
    generalize ((((((((((((V3.setCell ⟨Q, 0, none⟩ (.int .i64 7)).setCell ⟨Q, 1, none⟩ (.int .i64 0)).setCell ⟨Q, 2, none⟩ (.int .i64 0)).setCell ⟨Q, 3, none⟩ (.int .i64 v)).setCell ⟨Q, 4, none⟩ (.string { data := #[] })).setCell ⟨Q, 5, none⟩ (.int .i64 0)).setCell ⟨Q, 6, none⟩ (.int .i64 0)).setCell ⟨Q, 7, none⟩ (.int .i64 0)).setCell ⟨Q, 8, none⟩ (.int .i64 0)).setCell ⟨Q, 9, none⟩ (.int .i64 0)).setCell ⟨Q, 10, none⟩ (.int .i64 0)).setCell ⟨Q, 11, none⟩ (.int .i64 0)) = W9
    intro HW9
    have r0 := HW9.out.1.cell (i := 0) rfl
    have r1 := HW9.out.1.cell (i := 1) rfl
    have r2 := HW9.out.1.cell (i := 2) rfl
    have r3 := HW9.out.1.cell (i := 3) rfl
    have r4 := HW9.out.1.cell (i := 4) rfl
    have r5 := HW9.out.1.cell (i := 5) rfl
    have r6 := HW9.out.1.cell (i := 6) rfl
    have r7 := HW9.out.1.cell (i := 7) rfl
    have r8 := HW9.out.1.cell (i := 8) rfl
    have r9 := HW9.out.1.cell (i := 9) rfl
    have r10 := HW9.out.1.cell (i := 10) rfl
    have r11 := HW9.out.1.cell (i := 11) rfl
    (try simp only [Exit.inBlock, Exit.then])
    exact bodyPost_ret (v := .agg x.c.toArray) (by rw [← HX.out]; simp [results, Tryd.results11, go_sem, r0, r1, r2, r3, r4, r5, r6, r7, r8, r9, r10, r11, Ev.c]) rfl ⟨rfl, HW9.out.2⟩
  by_cases h2 : c1.data.toList = [111, 112, 101, 110]
  · have HX : Hid ((⟨2, n0, n1, 0, { data := #[] }, 0, 0, 0, 0, 0, 0, 0⟩ : Ev) = x) := Lib.hid (by rw [← hx, h2, Lo.rd_open, hn0, hn1])
    have b0 := Lo.txt_ne h0
    have b1 := Lo.txt_ne h1
    have b2 := Lo.txt_eq h2
    clear hx hv hn0 hn1 hn3 hL h0 h1 h2
    go_wp2_with (first
      | (go_at_call 16; (with_reducible refine (lo_number bk L n HU.out.1 hn2 HU.out.2 0 0 rfl n0 HV.out.2.1 _ _ HB.out.2 (HI.out.1.below HB.out.1.be)).mono ?_); rintro e1 V3 ⟨rfl, q3⟩; have HBn := Lib.hid (And.intro (HB.out.1.below q3) (HB.out.2.chg (l := []) (Chg.of_fresh q3) (by simp))); clear HB; have HB := HBn; clear HBn q3)
      | (go_at_call 16; (with_reducible refine (lo_number bk L n HU.out.1 hn2 HU.out.2 1 1 rfl n1 HV.out.2.2.1 _ _ HB.out.2 (HI.out.1.below HB.out.1.be)).mono ?_); rintro e1 V3 ⟨rfl, q3⟩; have HBn := Lib.hid (And.intro (HB.out.1.below q3) (HB.out.2.chg (l := []) (Chg.of_fresh q3) (by simp))); clear HB; have HB := HBn; clear HBn q3; have q0 := HB.out.1.bq.cell (i := 0) rfl; have g0 := HB.out.1.bq.free 0; have q1 := HB.out.1.bq.cell (i := 1) rfl; have g1 := HB.out.1.bq.free 1; have q2 := HB.out.1.bq.cell (i := 2) rfl; have g2 := HB.out.1.bq.free 2; have q3 := HB.out.1.bq.cell (i := 3) rfl; have g3 := HB.out.1.bq.free 3; have q4 := HB.out.1.bq.cell (i := 4) rfl; have g4 := HB.out.1.bq.free 4; have q5 := HB.out.1.bq.cell (i := 5) rfl; have g5 := HB.out.1.bq.free 5; have q6 := HB.out.1.bq.cell (i := 6) rfl; have g6 := HB.out.1.bq.free 6; have q7 := HB.out.1.bq.cell (i := 7) rfl; have g7 := HB.out.1.bq.free 7; have q8 := HB.out.1.bq.cell (i := 8) rfl; have g8 := HB.out.1.bq.free 8; have q9 := HB.out.1.bq.cell (i := 9) rfl; have g9 := HB.out.1.bq.free 9; have q10 := HB.out.1.bq.cell (i := 10) rfl; have g10 := HB.out.1.bq.free 10; have q11 := HB.out.1.bq.cell (i := 11) rfl; have g11 := HB.out.1.bq.free 11))
    have HW9 : Hid (Blk ((((((((((((V3.setCell ⟨Q, 0, none⟩ (.int .i64 2)).setCell ⟨Q, 1, none⟩ (.int .i64 n0)).setCell ⟨Q, 2, none⟩ (.int .i64 n1)).setCell ⟨Q, 3, none⟩ (.int .i64 0)).setCell ⟨Q, 4, none⟩ (.string { data := #[] })).setCell ⟨Q, 5, none⟩ (.int .i64 0)).setCell ⟨Q, 6, none⟩ (.int .i64 0)).setCell ⟨Q, 7, none⟩ (.int .i64 0)).setCell ⟨Q, 8, none⟩ (.int .i64 0)).setCell ⟨Q, 9, none⟩ (.int .i64 0)).setCell ⟨Q, 10, none⟩ (.int .i64 0)).setCell ⟨Q, 11, none⟩ (.int .i64 0)) Q [.int .i64 2, .int .i64 n0, .int .i64 n1, .int .i64 0, .string { data := #[] }, .int .i64 0, .int .i64 0, .int .i64 0, .int .i64 0, .int .i64 0, .int .i64 0, .int .i64 0] 32 ∧ Below w.heap.size w ((((((((((((V3.setCell ⟨Q, 0, none⟩ (.int .i64 2)).setCell ⟨Q, 1, none⟩ (.int .i64 n0)).setCell ⟨Q, 2, none⟩ (.int .i64 n1)).setCell ⟨Q, 3, none⟩ (.int .i64 0)).setCell ⟨Q, 4, none⟩ (.string { data := #[] })).setCell ⟨Q, 5, none⟩ (.int .i64 0)).setCell ⟨Q, 6, none⟩ (.int .i64 0)).setCell ⟨Q, 7, none⟩ (.int .i64 0)).setCell ⟨Q, 8, none⟩ (.int .i64 0)).setCell ⟨Q, 9, none⟩ (.int .i64 0)).setCell ⟨Q, 10, none⟩ (.int .i64 0)).setCell ⟨Q, 11, none⟩ (.int .i64 0))) := Lib.hid (HB.out.1.fill _ _ _ _ _ _ _ _ _ _ _ _)
    clear q0 g0 q1 g1 q2 g2 q3 g3 q4 g4 q5 g5 q6 g6 q7 g7 q8 g8 q9 g9 q10 g10 q11 g11
    revert HW9
    generalize ((((((((((((V3.setCell ⟨Q, 0, none⟩ (.int .i64 2)).setCell ⟨Q, 1, none⟩ (.int .i64 n0)).setCell ⟨Q, 2, none⟩ (.int .i64 n1)).setCell ⟨Q, 3, none⟩ (.int .i64 0)).setCell ⟨Q, 4, none⟩ (.string { data := #[] })).setCell ⟨Q, 5, none⟩ (.int .i64 0)).setCell ⟨Q, 6, none⟩ (.int .i64 0)).setCell ⟨Q, 7, none⟩ (.int .i64 0)).setCell ⟨Q, 8, none⟩ (.int .i64 0)).setCell ⟨Q, 9, none⟩ (.int .i64 0)).setCell ⟨Q, 10, none⟩ (.int .i64 0)).setCell ⟨Q, 11, none⟩ (.int .i64 0)) = W9
    intro HW9
    have r0 := HW9.out.1.cell (i := 0) rfl
    have r1 := HW9.out.1.cell (i := 1) rfl
    have r2 := HW9.out.1.cell (i := 2) rfl
    have r3 := HW9.out.1.cell (i := 3) rfl
    have r4 := HW9.out.1.cell (i := 4) rfl
    have r5 := HW9.out.1.cell (i := 5) rfl
    have r6 := HW9.out.1.cell (i := 6) rfl
    have r7 := HW9.out.1.cell (i := 7) rfl
    have r8 := HW9.out.1.cell (i := 8) rfl
    have r9 := HW9.out.1.cell (i := 9) rfl
    have r10 := HW9.out.1.cell (i := 10) rfl
    have r11 := HW9.out.1.cell (i := 11) rfl
    (try simp only [Exit.inBlock, Exit.then])
    exact bodyPost_ret (v := .agg x.c.toArray) (by rw [← HX.out]; simp [results, Tryd.results11, go_sem, r0, r1, r2, r3, r4, r5, r6, r7, r8, r9, r10, r11, Ev.c]) rfl ⟨rfl, HW9.out.2⟩
  by_cases h3 : c1.data.toList = [114, 101, 102, 117, 115, 101]
  · have HX : Hid ((⟨3, n0, n1, 0, { data := #[] }, n2, 0, 0, 0, 0, 0, 0⟩ : Ev) = x) := Lib.hid (by rw [← hx, h3, Lo.rd_refuse, hn0, hn1, hn3])
    have b0 := Lo.txt_ne h0
    have b1 := Lo.txt_ne h1
    have b2 := Lo.txt_ne h2
    have b3 := Lo.txt_eq h3
    clear hx hv hn0 hn1 hn3 hL h0 h1 h2 h3
    go_wp2_with (first
      | (go_at_call 16; (with_reducible refine (lo_number bk L n HU.out.1 hn2 HU.out.2 0 0 rfl n0 HV.out.2.1 _ _ HB.out.2 (HI.out.1.below HB.out.1.be)).mono ?_); rintro e1 V3 ⟨rfl, q3⟩; have HBn := Lib.hid (And.intro (HB.out.1.below q3) (HB.out.2.chg (l := []) (Chg.of_fresh q3) (by simp))); clear HB; have HB := HBn; clear HBn q3)
      | (go_at_call 16; (with_reducible refine (lo_number bk L n HU.out.1 hn2 HU.out.2 1 1 rfl n1 HV.out.2.2.1 _ _ HB.out.2 (HI.out.1.below HB.out.1.be)).mono ?_); rintro e1 V3 ⟨rfl, q3⟩; have HBn := Lib.hid (And.intro (HB.out.1.below q3) (HB.out.2.chg (l := []) (Chg.of_fresh q3) (by simp))); clear HB; have HB := HBn; clear HBn q3)
      | (go_at_call 16; (with_reducible refine (lo_number bk L n HU.out.1 hn2 HU.out.2 2 2 rfl n2 HV.out.2.2.2 _ _ HB.out.2 (HI.out.1.below HB.out.1.be)).mono ?_); rintro e1 V3 ⟨rfl, q3⟩; have HBn := Lib.hid (And.intro (HB.out.1.below q3) (HB.out.2.chg (l := []) (Chg.of_fresh q3) (by simp))); clear HB; have HB := HBn; clear HBn q3; have q0 := HB.out.1.bq.cell (i := 0) rfl; have g0 := HB.out.1.bq.free 0; have q1 := HB.out.1.bq.cell (i := 1) rfl; have g1 := HB.out.1.bq.free 1; have q2 := HB.out.1.bq.cell (i := 2) rfl; have g2 := HB.out.1.bq.free 2; have q3 := HB.out.1.bq.cell (i := 3) rfl; have g3 := HB.out.1.bq.free 3; have q4 := HB.out.1.bq.cell (i := 4) rfl; have g4 := HB.out.1.bq.free 4; have q5 := HB.out.1.bq.cell (i := 5) rfl; have g5 := HB.out.1.bq.free 5; have q6 := HB.out.1.bq.cell (i := 6) rfl; have g6 := HB.out.1.bq.free 6; have q7 := HB.out.1.bq.cell (i := 7) rfl; have g7 := HB.out.1.bq.free 7; have q8 := HB.out.1.bq.cell (i := 8) rfl; have g8 := HB.out.1.bq.free 8; have q9 := HB.out.1.bq.cell (i := 9) rfl; have g9 := HB.out.1.bq.free 9; have q10 := HB.out.1.bq.cell (i := 10) rfl; have g10 := HB.out.1.bq.free 10; have q11 := HB.out.1.bq.cell (i := 11) rfl; have g11 := HB.out.1.bq.free 11))
    have HW9 : Hid (Blk ((((((((((((V3.setCell ⟨Q, 0, none⟩ (.int .i64 3)).setCell ⟨Q, 1, none⟩ (.int .i64 n0)).setCell ⟨Q, 2, none⟩ (.int .i64 n1)).setCell ⟨Q, 3, none⟩ (.int .i64 0)).setCell ⟨Q, 4, none⟩ (.string { data := #[] })).setCell ⟨Q, 5, none⟩ (.int .i64 n2)).setCell ⟨Q, 6, none⟩ (.int .i64 0)).setCell ⟨Q, 7, none⟩ (.int .i64 0)).setCell ⟨Q, 8, none⟩ (.int .i64 0)).setCell ⟨Q, 9, none⟩ (.int .i64 0)).setCell ⟨Q, 10, none⟩ (.int .i64 0)).setCell ⟨Q, 11, none⟩ (.int .i64 0)) Q [.int .i64 3, .int .i64 n0, .int .i64 n1, .int .i64 0, .string { data := #[] }, .int .i64 n2, .int .i64 0, .int .i64 0, .int .i64 0, .int .i64 0, .int .i64 0, .int .i64 0] 32 ∧ Below w.heap.size w ((((((((((((V3.setCell ⟨Q, 0, none⟩ (.int .i64 3)).setCell ⟨Q, 1, none⟩ (.int .i64 n0)).setCell ⟨Q, 2, none⟩ (.int .i64 n1)).setCell ⟨Q, 3, none⟩ (.int .i64 0)).setCell ⟨Q, 4, none⟩ (.string { data := #[] })).setCell ⟨Q, 5, none⟩ (.int .i64 n2)).setCell ⟨Q, 6, none⟩ (.int .i64 0)).setCell ⟨Q, 7, none⟩ (.int .i64 0)).setCell ⟨Q, 8, none⟩ (.int .i64 0)).setCell ⟨Q, 9, none⟩ (.int .i64 0)).setCell ⟨Q, 10, none⟩ (.int .i64 0)).setCell ⟨Q, 11, none⟩ (.int .i64 0))) := Lib.hid (HB.out.1.fill _ _ _ _ _ _ _ _ _ _ _ _)
    clear q0 g0 q1 g1 q2 g2 q3 g3 q4 g4 q5 g5 q6 g6 q7 g7 q8 g8 q9 g9 q10 g10 q11 g11
    revert HW9
    generalize ((((((((((((V3.setCell ⟨Q, 0, none⟩ (.int .i64 3)).setCell ⟨Q, 1, none⟩ (.int .i64 n0)).setCell ⟨Q, 2, none⟩ (.int .i64 n1)).setCell ⟨Q, 3, none⟩ (.int .i64 0)).setCell ⟨Q, 4, none⟩ (.string { data := #[] })).setCell ⟨Q, 5, none⟩ (.int .i64 n2)).setCell ⟨Q, 6, none⟩ (.int .i64 0)).setCell ⟨Q, 7, none⟩ (.int .i64 0)).setCell ⟨Q, 8, none⟩ (.int .i64 0)).setCell ⟨Q, 9, none⟩ (.int .i64 0)).setCell ⟨Q, 10, none⟩ (.int .i64 0)).setCell ⟨Q, 11, none⟩ (.int .i64 0)) = W9
    intro HW9
    have r0 := HW9.out.1.cell (i := 0) rfl
    have r1 := HW9.out.1.cell (i := 1) rfl
    have r2 := HW9.out.1.cell (i := 2) rfl
    have r3 := HW9.out.1.cell (i := 3) rfl
    have r4 := HW9.out.1.cell (i := 4) rfl
    have r5 := HW9.out.1.cell (i := 5) rfl
    have r6 := HW9.out.1.cell (i := 6) rfl
    have r7 := HW9.out.1.cell (i := 7) rfl
    have r8 := HW9.out.1.cell (i := 8) rfl
    have r9 := HW9.out.1.cell (i := 9) rfl
    have r10 := HW9.out.1.cell (i := 10) rfl
    have r11 := HW9.out.1.cell (i := 11) rfl
    (try simp only [Exit.inBlock, Exit.then])
    exact bodyPost_ret (v := .agg x.c.toArray) (by rw [← HX.out]; simp [results, Tryd.results11, go_sem, r0, r1, r2, r3, r4, r5, r6, r7, r8, r9, r10, r11, Ev.c]) rfl ⟨rfl, HW9.out.2⟩
  by_cases h4 : c1.data.toList = [114, 101, 97, 100]
  · obtain ⟨iv, hiv⟩ : ∃ v, Lo.num (Lib.cut c2.data.toList [32]).1 = v := ⟨_, rfl⟩
    obtain ⟨qb, hqb⟩ : ∃ q : ByteArray, (Qt.whole (Lib.cut c2.data.toList [32]).2.1).1 = q.data.toList := ⟨Le.t _, (Le.t_list _).symm⟩
    have HRB := Lib.hid (And.intro hiv hqb)
    have HX : Hid ((⟨4, iv, (qb.size : Int), 0, qb, 0, 0, 0, 0, 0, 0, 0⟩ : Ev) = x) := Lib.hid (by rw [← hx, h4, Lo.rd_read]; unfold Lo.readB; rw [hiv, hqb, ← Le.t_of rfl]; rfl)
    have b0 := Lo.txt_ne h0
    have b1 := Lo.txt_ne h1
    have b2 := Lo.txt_ne h2
    have b3 := Lo.txt_ne h3
    have b4 := Lo.txt_eq h4
    clear hx hv hn0 hn1 hn3 hL h0 h1 h2 h3 h4
    clear hiv hqb
    go_wp2_with (first
      | (go_at_call 17; (with_reducible refine (lo_readBytes 4 c2 HC.out.2.2.2 iv qb HRB.out.1 HRB.out.2 _ (HI.out.1.below HB.out.1.be)).mono ?_); rintro e1 V3 ⟨rfl, q3⟩; have HBn := Lib.hid (And.intro (HB.out.1.below q3) (HB.out.2.chg (l := []) (Chg.of_fresh q3) (by simp))); clear HB; have HB := HBn; clear HBn q3; have q0 := HB.out.1.bq.cell (i := 0) rfl; have g0 := HB.out.1.bq.free 0; have q1 := HB.out.1.bq.cell (i := 1) rfl; have g1 := HB.out.1.bq.free 1; have q2 := HB.out.1.bq.cell (i := 2) rfl; have g2 := HB.out.1.bq.free 2; have q3 := HB.out.1.bq.cell (i := 3) rfl; have g3 := HB.out.1.bq.free 3; have q4 := HB.out.1.bq.cell (i := 4) rfl; have g4 := HB.out.1.bq.free 4; have q5 := HB.out.1.bq.cell (i := 5) rfl; have g5 := HB.out.1.bq.free 5; have q6 := HB.out.1.bq.cell (i := 6) rfl; have g6 := HB.out.1.bq.free 6; have q7 := HB.out.1.bq.cell (i := 7) rfl; have g7 := HB.out.1.bq.free 7; have q8 := HB.out.1.bq.cell (i := 8) rfl; have g8 := HB.out.1.bq.free 8; have q9 := HB.out.1.bq.cell (i := 9) rfl; have g9 := HB.out.1.bq.free 9; have q10 := HB.out.1.bq.cell (i := 10) rfl; have g10 := HB.out.1.bq.free 10; have q11 := HB.out.1.bq.cell (i := 11) rfl; have g11 := HB.out.1.bq.free 11))
    have HW9 : Hid (Blk ((((((((((((V3.setCell ⟨Q, 0, none⟩ (.int .i64 4)).setCell ⟨Q, 1, none⟩ (.int .i64 iv)).setCell ⟨Q, 2, none⟩ (.int .i64 (qb.size : Int))).setCell ⟨Q, 3, none⟩ (.int .i64 0)).setCell ⟨Q, 4, none⟩ (.string qb)).setCell ⟨Q, 5, none⟩ (.int .i64 0)).setCell ⟨Q, 6, none⟩ (.int .i64 0)).setCell ⟨Q, 7, none⟩ (.int .i64 0)).setCell ⟨Q, 8, none⟩ (.int .i64 0)).setCell ⟨Q, 9, none⟩ (.int .i64 0)).setCell ⟨Q, 10, none⟩ (.int .i64 0)).setCell ⟨Q, 11, none⟩ (.int .i64 0)) Q [.int .i64 4, .int .i64 iv, .int .i64 (qb.size : Int), .int .i64 0, .string qb, .int .i64 0, .int .i64 0, .int .i64 0, .int .i64 0, .int .i64 0, .int .i64 0, .int .i64 0] 32 ∧ Below w.heap.size w ((((((((((((V3.setCell ⟨Q, 0, none⟩ (.int .i64 4)).setCell ⟨Q, 1, none⟩ (.int .i64 iv)).setCell ⟨Q, 2, none⟩ (.int .i64 (qb.size : Int))).setCell ⟨Q, 3, none⟩ (.int .i64 0)).setCell ⟨Q, 4, none⟩ (.string qb)).setCell ⟨Q, 5, none⟩ (.int .i64 0)).setCell ⟨Q, 6, none⟩ (.int .i64 0)).setCell ⟨Q, 7, none⟩ (.int .i64 0)).setCell ⟨Q, 8, none⟩ (.int .i64 0)).setCell ⟨Q, 9, none⟩ (.int .i64 0)).setCell ⟨Q, 10, none⟩ (.int .i64 0)).setCell ⟨Q, 11, none⟩ (.int .i64 0))) := Lib.hid (HB.out.1.fill _ _ _ _ _ _ _ _ _ _ _ _)
    clear q0 g0 q1 g1 q2 g2 q3 g3 q4 g4 q5 g5 q6 g6 q7 g7 q8 g8 q9 g9 q10 g10 q11 g11
    revert HW9
    generalize ((((((((((((V3.setCell ⟨Q, 0, none⟩ (.int .i64 4)).setCell ⟨Q, 1, none⟩ (.int .i64 iv)).setCell ⟨Q, 2, none⟩ (.int .i64 (qb.size : Int))).setCell ⟨Q, 3, none⟩ (.int .i64 0)).setCell ⟨Q, 4, none⟩ (.string qb)).setCell ⟨Q, 5, none⟩ (.int .i64 0)).setCell ⟨Q, 6, none⟩ (.int .i64 0)).setCell ⟨Q, 7, none⟩ (.int .i64 0)).setCell ⟨Q, 8, none⟩ (.int .i64 0)).setCell ⟨Q, 9, none⟩ (.int .i64 0)).setCell ⟨Q, 10, none⟩ (.int .i64 0)).setCell ⟨Q, 11, none⟩ (.int .i64 0)) = W9
    intro HW9
    have r0 := HW9.out.1.cell (i := 0) rfl
    have r1 := HW9.out.1.cell (i := 1) rfl
    have r2 := HW9.out.1.cell (i := 2) rfl
    have r3 := HW9.out.1.cell (i := 3) rfl
    have r4 := HW9.out.1.cell (i := 4) rfl
    have r5 := HW9.out.1.cell (i := 5) rfl
    have r6 := HW9.out.1.cell (i := 6) rfl
    have r7 := HW9.out.1.cell (i := 7) rfl
    have r8 := HW9.out.1.cell (i := 8) rfl
    have r9 := HW9.out.1.cell (i := 9) rfl
    have r10 := HW9.out.1.cell (i := 10) rfl
    have r11 := HW9.out.1.cell (i := 11) rfl
    (try simp only [Exit.inBlock, Exit.then])
    exact bodyPost_ret (v := .agg x.c.toArray) (by rw [← HX.out]; simp [results, Tryd.results11, go_sem, r0, r1, r2, r3, r4, r5, r6, r7, r8, r9, r10, r11, Ev.c]) rfl ⟨rfl, HW9.out.2⟩
  by_cases h5 : c1.data.toList = [119, 114, 105, 116, 101]
  · obtain ⟨iv, hiv⟩ : ∃ v, Lo.num (Lib.cut c2.data.toList [32]).1 = v := ⟨_, rfl⟩
    obtain ⟨qb, hqb⟩ : ∃ q : ByteArray, (Qt.whole (Lib.cut c2.data.toList [32]).2.1).1 = q.data.toList := ⟨Le.t _, (Le.t_list _).symm⟩
    have HRB := Lib.hid (And.intro hiv hqb)
    have HX : Hid ((⟨6, iv, (qb.size : Int), 0, qb, 0, 0, 0, 0, 0, 0, 0⟩ : Ev) = x) := Lib.hid (by rw [← hx, h5, Lo.rd_write]; unfold Lo.readB; rw [hiv, hqb, ← Le.t_of rfl]; rfl)
    have b0 := Lo.txt_ne h0
    have b1 := Lo.txt_ne h1
    have b2 := Lo.txt_ne h2
    have b3 := Lo.txt_ne h3
    have b4 := Lo.txt_ne h4
    have b5 := Lo.txt_eq h5
    clear hx hv hn0 hn1 hn3 hL h0 h1 h2 h3 h4 h5
    clear hiv hqb
    go_wp2_with (first
      | (go_at_call 17; (with_reducible refine (lo_readBytes 6 c2 HC.out.2.2.2 iv qb HRB.out.1 HRB.out.2 _ (HI.out.1.below HB.out.1.be)).mono ?_); rintro e1 V3 ⟨rfl, q3⟩; have HBn := Lib.hid (And.intro (HB.out.1.below q3) (HB.out.2.chg (l := []) (Chg.of_fresh q3) (by simp))); clear HB; have HB := HBn; clear HBn q3; have q0 := HB.out.1.bq.cell (i := 0) rfl; have g0 := HB.out.1.bq.free 0; have q1 := HB.out.1.bq.cell (i := 1) rfl; have g1 := HB.out.1.bq.free 1; have q2 := HB.out.1.bq.cell (i := 2) rfl; have g2 := HB.out.1.bq.free 2; have q3 := HB.out.1.bq.cell (i := 3) rfl; have g3 := HB.out.1.bq.free 3; have q4 := HB.out.1.bq.cell (i := 4) rfl; have g4 := HB.out.1.bq.free 4; have q5 := HB.out.1.bq.cell (i := 5) rfl; have g5 := HB.out.1.bq.free 5; have q6 := HB.out.1.bq.cell (i := 6) rfl; have g6 := HB.out.1.bq.free 6; have q7 := HB.out.1.bq.cell (i := 7) rfl; have g7 := HB.out.1.bq.free 7; have q8 := HB.out.1.bq.cell (i := 8) rfl; have g8 := HB.out.1.bq.free 8; have q9 := HB.out.1.bq.cell (i := 9) rfl; have g9 := HB.out.1.bq.free 9; have q10 := HB.out.1.bq.cell (i := 10) rfl; have g10 := HB.out.1.bq.free 10; have q11 := HB.out.1.bq.cell (i := 11) rfl; have g11 := HB.out.1.bq.free 11))
    have HW9 : Hid (Blk ((((((((((((V3.setCell ⟨Q, 0, none⟩ (.int .i64 6)).setCell ⟨Q, 1, none⟩ (.int .i64 iv)).setCell ⟨Q, 2, none⟩ (.int .i64 (qb.size : Int))).setCell ⟨Q, 3, none⟩ (.int .i64 0)).setCell ⟨Q, 4, none⟩ (.string qb)).setCell ⟨Q, 5, none⟩ (.int .i64 0)).setCell ⟨Q, 6, none⟩ (.int .i64 0)).setCell ⟨Q, 7, none⟩ (.int .i64 0)).setCell ⟨Q, 8, none⟩ (.int .i64 0)).setCell ⟨Q, 9, none⟩ (.int .i64 0)).setCell ⟨Q, 10, none⟩ (.int .i64 0)).setCell ⟨Q, 11, none⟩ (.int .i64 0)) Q [.int .i64 6, .int .i64 iv, .int .i64 (qb.size : Int), .int .i64 0, .string qb, .int .i64 0, .int .i64 0, .int .i64 0, .int .i64 0, .int .i64 0, .int .i64 0, .int .i64 0] 32 ∧ Below w.heap.size w ((((((((((((V3.setCell ⟨Q, 0, none⟩ (.int .i64 6)).setCell ⟨Q, 1, none⟩ (.int .i64 iv)).setCell ⟨Q, 2, none⟩ (.int .i64 (qb.size : Int))).setCell ⟨Q, 3, none⟩ (.int .i64 0)).setCell ⟨Q, 4, none⟩ (.string qb)).setCell ⟨Q, 5, none⟩ (.int .i64 0)).setCell ⟨Q, 6, none⟩ (.int .i64 0)).setCell ⟨Q, 7, none⟩ (.int .i64 0)).setCell ⟨Q, 8, none⟩ (.int .i64 0)).setCell ⟨Q, 9, none⟩ (.int .i64 0)).setCell ⟨Q, 10, none⟩ (.int .i64 0)).setCell ⟨Q, 11, none⟩ (.int .i64 0))) := Lib.hid (HB.out.1.fill _ _ _ _ _ _ _ _ _ _ _ _)
    clear q0 g0 q1 g1 q2 g2 q3 g3 q4 g4 q5 g5 q6 g6 q7 g7 q8 g8 q9 g9 q10 g10 q11 g11
    revert HW9
    generalize ((((((((((((V3.setCell ⟨Q, 0, none⟩ (.int .i64 6)).setCell ⟨Q, 1, none⟩ (.int .i64 iv)).setCell ⟨Q, 2, none⟩ (.int .i64 (qb.size : Int))).setCell ⟨Q, 3, none⟩ (.int .i64 0)).setCell ⟨Q, 4, none⟩ (.string qb)).setCell ⟨Q, 5, none⟩ (.int .i64 0)).setCell ⟨Q, 6, none⟩ (.int .i64 0)).setCell ⟨Q, 7, none⟩ (.int .i64 0)).setCell ⟨Q, 8, none⟩ (.int .i64 0)).setCell ⟨Q, 9, none⟩ (.int .i64 0)).setCell ⟨Q, 10, none⟩ (.int .i64 0)).setCell ⟨Q, 11, none⟩ (.int .i64 0)) = W9
    intro HW9
    have r0 := HW9.out.1.cell (i := 0) rfl
    have r1 := HW9.out.1.cell (i := 1) rfl
    have r2 := HW9.out.1.cell (i := 2) rfl
    have r3 := HW9.out.1.cell (i := 3) rfl
    have r4 := HW9.out.1.cell (i := 4) rfl
    have r5 := HW9.out.1.cell (i := 5) rfl
    have r6 := HW9.out.1.cell (i := 6) rfl
    have r7 := HW9.out.1.cell (i := 7) rfl
    have r8 := HW9.out.1.cell (i := 8) rfl
    have r9 := HW9.out.1.cell (i := 9) rfl
    have r10 := HW9.out.1.cell (i := 10) rfl
    have r11 := HW9.out.1.cell (i := 11) rfl
    (try simp only [Exit.inBlock, Exit.then])
    exact bodyPost_ret (v := .agg x.c.toArray) (by rw [← HX.out]; simp [results, Tryd.results11, go_sem, r0, r1, r2, r3, r4, r5, r6, r7, r8, r9, r10, r11, Ev.c]) rfl ⟨rfl, HW9.out.2⟩
  by_cases h6 : c1.data.toList = [101, 111, 102]
  · have HX : Hid ((⟨5, n0, 0, 0, { data := #[] }, 0, 0, 0, 0, 0, 0, 0⟩ : Ev) = x) := Lib.hid (by rw [← hx, h6, Lo.rd_eof, hn0])
    have b0 := Lo.txt_ne h0
    have b1 := Lo.txt_ne h1
    have b2 := Lo.txt_ne h2
    have b3 := Lo.txt_ne h3
    have b4 := Lo.txt_ne h4
    have b5 := Lo.txt_ne h5
    have b6 := Lo.txt_eq h6
    clear hx hv hn0 hn1 hn3 hL h0 h1 h2 h3 h4 h5 h6
    go_wp2_with (first
      | (go_at_call 16; (with_reducible refine (lo_number bk L n HU.out.1 hn2 HU.out.2 0 0 rfl n0 HV.out.2.1 _ _ HB.out.2 (HI.out.1.below HB.out.1.be)).mono ?_); rintro e1 V3 ⟨rfl, q3⟩; have HBn := Lib.hid (And.intro (HB.out.1.below q3) (HB.out.2.chg (l := []) (Chg.of_fresh q3) (by simp))); clear HB; have HB := HBn; clear HBn q3; have q0 := HB.out.1.bq.cell (i := 0) rfl; have g0 := HB.out.1.bq.free 0; have q1 := HB.out.1.bq.cell (i := 1) rfl; have g1 := HB.out.1.bq.free 1; have q2 := HB.out.1.bq.cell (i := 2) rfl; have g2 := HB.out.1.bq.free 2; have q3 := HB.out.1.bq.cell (i := 3) rfl; have g3 := HB.out.1.bq.free 3; have q4 := HB.out.1.bq.cell (i := 4) rfl; have g4 := HB.out.1.bq.free 4; have q5 := HB.out.1.bq.cell (i := 5) rfl; have g5 := HB.out.1.bq.free 5; have q6 := HB.out.1.bq.cell (i := 6) rfl; have g6 := HB.out.1.bq.free 6; have q7 := HB.out.1.bq.cell (i := 7) rfl; have g7 := HB.out.1.bq.free 7; have q8 := HB.out.1.bq.cell (i := 8) rfl; have g8 := HB.out.1.bq.free 8; have q9 := HB.out.1.bq.cell (i := 9) rfl; have g9 := HB.out.1.bq.free 9; have q10 := HB.out.1.bq.cell (i := 10) rfl; have g10 := HB.out.1.bq.free 10; have q11 := HB.out.1.bq.cell (i := 11) rfl; have g11 := HB.out.1.bq.free 11))
    have HW9 : Hid (Blk ((((((((((((V3.setCell ⟨Q, 0, none⟩ (.int .i64 5)).setCell ⟨Q, 1, none⟩ (.int .i64 n0)).setCell ⟨Q, 2, none⟩ (.int .i64 0)).setCell ⟨Q, 3, none⟩ (.int .i64 0)).setCell ⟨Q, 4, none⟩ (.string { data := #[] })).setCell ⟨Q, 5, none⟩ (.int .i64 0)).setCell ⟨Q, 6, none⟩ (.int .i64 0)).setCell ⟨Q, 7, none⟩ (.int .i64 0)).setCell ⟨Q, 8, none⟩ (.int .i64 0)).setCell ⟨Q, 9, none⟩ (.int .i64 0)).setCell ⟨Q, 10, none⟩ (.int .i64 0)).setCell ⟨Q, 11, none⟩ (.int .i64 0)) Q [.int .i64 5, .int .i64 n0, .int .i64 0, .int .i64 0, .string { data := #[] }, .int .i64 0, .int .i64 0, .int .i64 0, .int .i64 0, .int .i64 0, .int .i64 0, .int .i64 0] 32 ∧ Below w.heap.size w ((((((((((((V3.setCell ⟨Q, 0, none⟩ (.int .i64 5)).setCell ⟨Q, 1, none⟩ (.int .i64 n0)).setCell ⟨Q, 2, none⟩ (.int .i64 0)).setCell ⟨Q, 3, none⟩ (.int .i64 0)).setCell ⟨Q, 4, none⟩ (.string { data := #[] })).setCell ⟨Q, 5, none⟩ (.int .i64 0)).setCell ⟨Q, 6, none⟩ (.int .i64 0)).setCell ⟨Q, 7, none⟩ (.int .i64 0)).setCell ⟨Q, 8, none⟩ (.int .i64 0)).setCell ⟨Q, 9, none⟩ (.int .i64 0)).setCell ⟨Q, 10, none⟩ (.int .i64 0)).setCell ⟨Q, 11, none⟩ (.int .i64 0))) := Lib.hid (HB.out.1.fill _ _ _ _ _ _ _ _ _ _ _ _)
    clear q0 g0 q1 g1 q2 g2 q3 g3 q4 g4 q5 g5 q6 g6 q7 g7 q8 g8 q9 g9 q10 g10 q11 g11
    revert HW9
    generalize ((((((((((((V3.setCell ⟨Q, 0, none⟩ (.int .i64 5)).setCell ⟨Q, 1, none⟩ (.int .i64 n0)).setCell ⟨Q, 2, none⟩ (.int .i64 0)).setCell ⟨Q, 3, none⟩ (.int .i64 0)).setCell ⟨Q, 4, none⟩ (.string { data := #[] })).setCell ⟨Q, 5, none⟩ (.int .i64 0)).setCell ⟨Q, 6, none⟩ (.int .i64 0)).setCell ⟨Q, 7, none⟩ (.int .i64 0)).setCell ⟨Q, 8, none⟩ (.int .i64 0)).setCell ⟨Q, 9, none⟩ (.int .i64 0)).setCell ⟨Q, 10, none⟩ (.int .i64 0)).setCell ⟨Q, 11, none⟩ (.int .i64 0)) = W9
    intro HW9
    have r0 := HW9.out.1.cell (i := 0) rfl
    have r1 := HW9.out.1.cell (i := 1) rfl
    have r2 := HW9.out.1.cell (i := 2) rfl
    have r3 := HW9.out.1.cell (i := 3) rfl
    have r4 := HW9.out.1.cell (i := 4) rfl
    have r5 := HW9.out.1.cell (i := 5) rfl
    have r6 := HW9.out.1.cell (i := 6) rfl
    have r7 := HW9.out.1.cell (i := 7) rfl
    have r8 := HW9.out.1.cell (i := 8) rfl
    have r9 := HW9.out.1.cell (i := 9) rfl
    have r10 := HW9.out.1.cell (i := 10) rfl
    have r11 := HW9.out.1.cell (i := 11) rfl
    (try simp only [Exit.inBlock, Exit.then])
    exact bodyPost_ret (v := .agg x.c.toArray) (by rw [← HX.out]; simp [results, Tryd.results11, go_sem, r0, r1, r2, r3, r4, r5, r6, r7, r8, r9, r10, r11, Ev.c]) rfl ⟨rfl, HW9.out.2⟩
  by_cases h7 : c1.data.toList = [115, 116, 101, 112]
  · obtain ⟨u0, hu0⟩ : ∃ v, (Tx.parse (Lo.at L 1).data.toList).1 = v := ⟨_, rfl⟩
    obtain ⟨u1, hu1⟩ : ∃ v, Lo.num (Lo.at L 2).data.toList = v := ⟨_, rfl⟩
    obtain ⟨u2, hu2⟩ : ∃ v, Lo.lst Lo.word (Lo.at L 3) 15 = v := ⟨_, rfl⟩
    obtain ⟨u3, hu3⟩ : ∃ v, Lo.num (Lo.at L 4).data.toList = v := ⟨_, rfl⟩
    obtain ⟨u4, hu4⟩ : ∃ v, Lo.num (Lo.at L 5).data.toList = v := ⟨_, rfl⟩
    obtain ⟨u5, hu5⟩ : ∃ v, Lo.lst Le.word (Lo.at L 6) 6 = v := ⟨_, rfl⟩
    have HS := Lib.hid (And.intro hu0 (And.intro hu1 (And.intro hu2 (And.intro hu3 (And.intro hu4 hu5)))))
    have HX : Hid ((⟨8, n0, 0, 0, { data := #[] }, 0, u0, u1, u2, u3, u4, u5⟩ : Ev) = x) := Lib.hid (by rw [← hx, h7, Lo.rd_step, hn0, hL, hu0, hu1, hu2, hu3, hu4, hu5])
    have b0 := Lo.txt_ne h0
    have b1 := Lo.txt_ne h1
    have b2 := Lo.txt_ne h2
    have b3 := Lo.txt_ne h3
    have b4 := Lo.txt_ne h4
    have b5 := Lo.txt_ne h5
    have b6 := Lo.txt_ne h6
    have b7 := Lo.txt_eq h7
    clear hx hv hn0 hn1 hn3 hL h0 h1 h2 h3 h4 h5 h6 h7
    clear hu0 hu1 hu2 hu3 hu4 hu5
    go_wp2_with (first
      | (go_at_call 16; (with_reducible refine (lo_number bk L n HU.out.1 hn2 HU.out.2 0 0 rfl n0 HV.out.2.1 _ _ HB.out.2 (HI.out.1.below HB.out.1.be)).mono ?_); rintro e1 V3 ⟨rfl, q3⟩; have HBn := Lib.hid (And.intro (HB.out.1.below q3) (HB.out.2.chg (l := []) (Chg.of_fresh q3) (by simp))); clear HB; have HB := HBn; clear HBn q3)
      | (go_at_call 18; (with_reducible refine (lo_readStep bk L n HU.out.1 hn2 HU.out.2 u0 u1 u2 u3 u4 u5 HS.out.1 HS.out.2.1 HS.out.2.2.1 HS.out.2.2.2.1 HS.out.2.2.2.2.1 HS.out.2.2.2.2.2 _ _ HB.out.2 (HI.out.1.below HB.out.1.be) (HI.out.2.1.below HB.out.1.be) (HI.out.2.2.below HB.out.1.be)).mono ?_); rintro e1 V3 ⟨rfl, q3⟩; have HBn := Lib.hid (And.intro (HB.out.1.below q3) (HB.out.2.chg (l := []) (Chg.of_fresh q3) (by simp))); clear HB; have HB := HBn; clear HBn q3; have q0 := HB.out.1.bq.cell (i := 0) rfl; have g0 := HB.out.1.bq.free 0; have q1 := HB.out.1.bq.cell (i := 1) rfl; have g1 := HB.out.1.bq.free 1; have q2 := HB.out.1.bq.cell (i := 2) rfl; have g2 := HB.out.1.bq.free 2; have q3 := HB.out.1.bq.cell (i := 3) rfl; have g3 := HB.out.1.bq.free 3; have q4 := HB.out.1.bq.cell (i := 4) rfl; have g4 := HB.out.1.bq.free 4; have q5 := HB.out.1.bq.cell (i := 5) rfl; have g5 := HB.out.1.bq.free 5; have q6 := HB.out.1.bq.cell (i := 6) rfl; have g6 := HB.out.1.bq.free 6; have q7 := HB.out.1.bq.cell (i := 7) rfl; have g7 := HB.out.1.bq.free 7; have q8 := HB.out.1.bq.cell (i := 8) rfl; have g8 := HB.out.1.bq.free 8; have q9 := HB.out.1.bq.cell (i := 9) rfl; have g9 := HB.out.1.bq.free 9; have q10 := HB.out.1.bq.cell (i := 10) rfl; have g10 := HB.out.1.bq.free 10; have q11 := HB.out.1.bq.cell (i := 11) rfl; have g11 := HB.out.1.bq.free 11))
    have HW9 : Hid (Blk ((((((((((((V3.setCell ⟨Q, 0, none⟩ (.int .i64 8)).setCell ⟨Q, 1, none⟩ (.int .i64 n0)).setCell ⟨Q, 2, none⟩ (.int .i64 0)).setCell ⟨Q, 3, none⟩ (.int .i64 0)).setCell ⟨Q, 4, none⟩ (.string { data := #[] })).setCell ⟨Q, 5, none⟩ (.int .i64 0)).setCell ⟨Q, 6, none⟩ (.int .i64 u0)).setCell ⟨Q, 7, none⟩ (.int .i64 u1)).setCell ⟨Q, 8, none⟩ (.int .i64 u2)).setCell ⟨Q, 9, none⟩ (.int .i64 u3)).setCell ⟨Q, 10, none⟩ (.int .i64 u4)).setCell ⟨Q, 11, none⟩ (.int .i64 u5)) Q [.int .i64 8, .int .i64 n0, .int .i64 0, .int .i64 0, .string { data := #[] }, .int .i64 0, .int .i64 u0, .int .i64 u1, .int .i64 u2, .int .i64 u3, .int .i64 u4, .int .i64 u5] 32 ∧ Below w.heap.size w ((((((((((((V3.setCell ⟨Q, 0, none⟩ (.int .i64 8)).setCell ⟨Q, 1, none⟩ (.int .i64 n0)).setCell ⟨Q, 2, none⟩ (.int .i64 0)).setCell ⟨Q, 3, none⟩ (.int .i64 0)).setCell ⟨Q, 4, none⟩ (.string { data := #[] })).setCell ⟨Q, 5, none⟩ (.int .i64 0)).setCell ⟨Q, 6, none⟩ (.int .i64 u0)).setCell ⟨Q, 7, none⟩ (.int .i64 u1)).setCell ⟨Q, 8, none⟩ (.int .i64 u2)).setCell ⟨Q, 9, none⟩ (.int .i64 u3)).setCell ⟨Q, 10, none⟩ (.int .i64 u4)).setCell ⟨Q, 11, none⟩ (.int .i64 u5))) := Lib.hid (HB.out.1.fill _ _ _ _ _ _ _ _ _ _ _ _)
    clear q0 g0 q1 g1 q2 g2 q3 g3 q4 g4 q5 g5 q6 g6 q7 g7 q8 g8 q9 g9 q10 g10 q11 g11
    revert HW9
    generalize ((((((((((((V3.setCell ⟨Q, 0, none⟩ (.int .i64 8)).setCell ⟨Q, 1, none⟩ (.int .i64 n0)).setCell ⟨Q, 2, none⟩ (.int .i64 0)).setCell ⟨Q, 3, none⟩ (.int .i64 0)).setCell ⟨Q, 4, none⟩ (.string { data := #[] })).setCell ⟨Q, 5, none⟩ (.int .i64 0)).setCell ⟨Q, 6, none⟩ (.int .i64 u0)).setCell ⟨Q, 7, none⟩ (.int .i64 u1)).setCell ⟨Q, 8, none⟩ (.int .i64 u2)).setCell ⟨Q, 9, none⟩ (.int .i64 u3)).setCell ⟨Q, 10, none⟩ (.int .i64 u4)).setCell ⟨Q, 11, none⟩ (.int .i64 u5)) = W9
    intro HW9
    have r0 := HW9.out.1.cell (i := 0) rfl
    have r1 := HW9.out.1.cell (i := 1) rfl
    have r2 := HW9.out.1.cell (i := 2) rfl
    have r3 := HW9.out.1.cell (i := 3) rfl
    have r4 := HW9.out.1.cell (i := 4) rfl
    have r5 := HW9.out.1.cell (i := 5) rfl
    have r6 := HW9.out.1.cell (i := 6) rfl
    have r7 := HW9.out.1.cell (i := 7) rfl
    have r8 := HW9.out.1.cell (i := 8) rfl
    have r9 := HW9.out.1.cell (i := 9) rfl
    have r10 := HW9.out.1.cell (i := 10) rfl
    have r11 := HW9.out.1.cell (i := 11) rfl
    (try simp only [Exit.inBlock, Exit.then])
    exact bodyPost_ret (v := .agg x.c.toArray) (by rw [← HX.out]; simp [results, Tryd.results11, go_sem, r0, r1, r2, r3, r4, r5, r6, r7, r8, r9, r10, r11, Ev.c]) rfl ⟨rfl, HW9.out.2⟩
  by_cases h8 : c1.data.toList = [115, 116, 111, 112]
  · have HX : Hid ((⟨9, 0, 0, 0, { data := #[] }, 0, 0, 0, 0, 0, 0, 0⟩ : Ev) = x) := Lib.hid (by rw [← hx, h8, Lo.rd_stop])
    have b0 := Lo.txt_ne h0
    have b1 := Lo.txt_ne h1
    have b2 := Lo.txt_ne h2
    have b3 := Lo.txt_ne h3
    have b4 := Lo.txt_ne h4
    have b5 := Lo.txt_ne h5
    have b6 := Lo.txt_ne h6
    have b7 := Lo.txt_ne h7
    have b8 := Lo.txt_eq h8
    clear hx hv hn0 hn1 hn3 hL h0 h1 h2 h3 h4 h5 h6 h7 h8
    have q0 := HB.out.1.bq.cell (i := 0) rfl
    have g0 := HB.out.1.bq.free 0
    have q1 := HB.out.1.bq.cell (i := 1) rfl
    have g1 := HB.out.1.bq.free 1
    have q2 := HB.out.1.bq.cell (i := 2) rfl
    have g2 := HB.out.1.bq.free 2
    have q3 := HB.out.1.bq.cell (i := 3) rfl
    have g3 := HB.out.1.bq.free 3
    have q4 := HB.out.1.bq.cell (i := 4) rfl
    have g4 := HB.out.1.bq.free 4
    have q5 := HB.out.1.bq.cell (i := 5) rfl
    have g5 := HB.out.1.bq.free 5
    have q6 := HB.out.1.bq.cell (i := 6) rfl
    have g6 := HB.out.1.bq.free 6
    have q7 := HB.out.1.bq.cell (i := 7) rfl
    have g7 := HB.out.1.bq.free 7
    have q8 := HB.out.1.bq.cell (i := 8) rfl
    have g8 := HB.out.1.bq.free 8
    have q9 := HB.out.1.bq.cell (i := 9) rfl
    have g9 := HB.out.1.bq.free 9
    have q10 := HB.out.1.bq.cell (i := 10) rfl
    have g10 := HB.out.1.bq.free 10
    have q11 := HB.out.1.bq.cell (i := 11) rfl
    have g11 := HB.out.1.bq.free 11
    go_wp2_with fail
    have HW9 : Hid (Blk ((((((((((((V2.setCell ⟨Q, 0, none⟩ (.int .i64 9)).setCell ⟨Q, 1, none⟩ (.int .i64 0)).setCell ⟨Q, 2, none⟩ (.int .i64 0)).setCell ⟨Q, 3, none⟩ (.int .i64 0)).setCell ⟨Q, 4, none⟩ (.string { data := #[] })).setCell ⟨Q, 5, none⟩ (.int .i64 0)).setCell ⟨Q, 6, none⟩ (.int .i64 0)).setCell ⟨Q, 7, none⟩ (.int .i64 0)).setCell ⟨Q, 8, none⟩ (.int .i64 0)).setCell ⟨Q, 9, none⟩ (.int .i64 0)).setCell ⟨Q, 10, none⟩ (.int .i64 0)).setCell ⟨Q, 11, none⟩ (.int .i64 0)) Q [.int .i64 9, .int .i64 0, .int .i64 0, .int .i64 0, .string { data := #[] }, .int .i64 0, .int .i64 0, .int .i64 0, .int .i64 0, .int .i64 0, .int .i64 0, .int .i64 0] 32 ∧ Below w.heap.size w ((((((((((((V2.setCell ⟨Q, 0, none⟩ (.int .i64 9)).setCell ⟨Q, 1, none⟩ (.int .i64 0)).setCell ⟨Q, 2, none⟩ (.int .i64 0)).setCell ⟨Q, 3, none⟩ (.int .i64 0)).setCell ⟨Q, 4, none⟩ (.string { data := #[] })).setCell ⟨Q, 5, none⟩ (.int .i64 0)).setCell ⟨Q, 6, none⟩ (.int .i64 0)).setCell ⟨Q, 7, none⟩ (.int .i64 0)).setCell ⟨Q, 8, none⟩ (.int .i64 0)).setCell ⟨Q, 9, none⟩ (.int .i64 0)).setCell ⟨Q, 10, none⟩ (.int .i64 0)).setCell ⟨Q, 11, none⟩ (.int .i64 0))) := Lib.hid (HB.out.1.fill _ _ _ _ _ _ _ _ _ _ _ _)
    clear q0 g0 q1 g1 q2 g2 q3 g3 q4 g4 q5 g5 q6 g6 q7 g7 q8 g8 q9 g9 q10 g10 q11 g11
    revert HW9
    generalize ((((((((((((V2.setCell ⟨Q, 0, none⟩ (.int .i64 9)).setCell ⟨Q, 1, none⟩ (.int .i64 0)).setCell ⟨Q, 2, none⟩ (.int .i64 0)).setCell ⟨Q, 3, none⟩ (.int .i64 0)).setCell ⟨Q, 4, none⟩ (.string { data := #[] })).setCell ⟨Q, 5, none⟩ (.int .i64 0)).setCell ⟨Q, 6, none⟩ (.int .i64 0)).setCell ⟨Q, 7, none⟩ (.int .i64 0)).setCell ⟨Q, 8, none⟩ (.int .i64 0)).setCell ⟨Q, 9, none⟩ (.int .i64 0)).setCell ⟨Q, 10, none⟩ (.int .i64 0)).setCell ⟨Q, 11, none⟩ (.int .i64 0)) = W9
    intro HW9
    have r0 := HW9.out.1.cell (i := 0) rfl
    have r1 := HW9.out.1.cell (i := 1) rfl
    have r2 := HW9.out.1.cell (i := 2) rfl
    have r3 := HW9.out.1.cell (i := 3) rfl
    have r4 := HW9.out.1.cell (i := 4) rfl
    have r5 := HW9.out.1.cell (i := 5) rfl
    have r6 := HW9.out.1.cell (i := 6) rfl
    have r7 := HW9.out.1.cell (i := 7) rfl
    have r8 := HW9.out.1.cell (i := 8) rfl
    have r9 := HW9.out.1.cell (i := 9) rfl
    have r10 := HW9.out.1.cell (i := 10) rfl
    have r11 := HW9.out.1.cell (i := 11) rfl
    (try simp only [Exit.inBlock, Exit.then])
    exact bodyPost_ret (v := .agg x.c.toArray) (by rw [← HX.out]; simp [results, Tryd.results11, go_sem, r0, r1, r2, r3, r4, r5, r6, r7, r8, r9, r10, r11, Ev.c]) rfl ⟨rfl, HW9.out.2⟩
  have HX : Hid ((⟨0, 0, 0, 0, { data := #[] }, 0, 0, 0, 0, 0, 0, 0⟩ : Ev) = x) := Lib.hid (by rw [← hx]; unfold Lo.rd; rw [if_neg h0, if_neg h1, if_neg h2, if_neg h3, if_neg h4, if_neg h5, if_neg h6, if_neg h7, if_neg h8])
  have b0 := Lo.txt_ne h0
  have b1 := Lo.txt_ne h1
  have b2 := Lo.txt_ne h2
  have b3 := Lo.txt_ne h3
  have b4 := Lo.txt_ne h4
  have b5 := Lo.txt_ne h5
  have b6 := Lo.txt_ne h6
  have b7 := Lo.txt_ne h7
  have b8 := Lo.txt_ne h8
  clear hx hv hn0 hn1 hn3 hL h0 h1 h2 h3 h4 h5 h6 h7 h8
  have q0 := HB.out.1.bq.cell (i := 0) rfl
  have g0 := HB.out.1.bq.free 0
  have q1 := HB.out.1.bq.cell (i := 1) rfl
  have g1 := HB.out.1.bq.free 1
  have q2 := HB.out.1.bq.cell (i := 2) rfl
  have g2 := HB.out.1.bq.free 2
  have q3 := HB.out.1.bq.cell (i := 3) rfl
  have g3 := HB.out.1.bq.free 3
  have q4 := HB.out.1.bq.cell (i := 4) rfl
  have g4 := HB.out.1.bq.free 4
  have q5 := HB.out.1.bq.cell (i := 5) rfl
  have g5 := HB.out.1.bq.free 5
  have q6 := HB.out.1.bq.cell (i := 6) rfl
  have g6 := HB.out.1.bq.free 6
  have q7 := HB.out.1.bq.cell (i := 7) rfl
  have g7 := HB.out.1.bq.free 7
  have q8 := HB.out.1.bq.cell (i := 8) rfl
  have g8 := HB.out.1.bq.free 8
  have q9 := HB.out.1.bq.cell (i := 9) rfl
  have g9 := HB.out.1.bq.free 9
  have q10 := HB.out.1.bq.cell (i := 10) rfl
  have g10 := HB.out.1.bq.free 10
  have q11 := HB.out.1.bq.cell (i := 11) rfl
  have g11 := HB.out.1.bq.free 11
  go_wp2_with fail
  have HW9 : Hid (Blk ((((((((((((V2.setCell ⟨Q, 0, none⟩ (.int .i64 0)).setCell ⟨Q, 1, none⟩ (.int .i64 0)).setCell ⟨Q, 2, none⟩ (.int .i64 0)).setCell ⟨Q, 3, none⟩ (.int .i64 0)).setCell ⟨Q, 4, none⟩ (.string { data := #[] })).setCell ⟨Q, 5, none⟩ (.int .i64 0)).setCell ⟨Q, 6, none⟩ (.int .i64 0)).setCell ⟨Q, 7, none⟩ (.int .i64 0)).setCell ⟨Q, 8, none⟩ (.int .i64 0)).setCell ⟨Q, 9, none⟩ (.int .i64 0)).setCell ⟨Q, 10, none⟩ (.int .i64 0)).setCell ⟨Q, 11, none⟩ (.int .i64 0)) Q [.int .i64 0, .int .i64 0, .int .i64 0, .int .i64 0, .string { data := #[] }, .int .i64 0, .int .i64 0, .int .i64 0, .int .i64 0, .int .i64 0, .int .i64 0, .int .i64 0] 32 ∧ Below w.heap.size w ((((((((((((V2.setCell ⟨Q, 0, none⟩ (.int .i64 0)).setCell ⟨Q, 1, none⟩ (.int .i64 0)).setCell ⟨Q, 2, none⟩ (.int .i64 0)).setCell ⟨Q, 3, none⟩ (.int .i64 0)).setCell ⟨Q, 4, none⟩ (.string { data := #[] })).setCell ⟨Q, 5, none⟩ (.int .i64 0)).setCell ⟨Q, 6, none⟩ (.int .i64 0)).setCell ⟨Q, 7, none⟩ (.int .i64 0)).setCell ⟨Q, 8, none⟩ (.int .i64 0)).setCell ⟨Q, 9, none⟩ (.int .i64 0)).setCell ⟨Q, 10, none⟩ (.int .i64 0)).setCell ⟨Q, 11, none⟩ (.int .i64 0))) := Lib.hid (HB.out.1.fill _ _ _ _ _ _ _ _ _ _ _ _)
  clear q0 g0 q1 g1 q2 g2 q3 g3 q4 g4 q5 g5 q6 g6 q7 g7 q8 g8 q9 g9 q10 g10 q11 g11
  revert HW9
  generalize ((((((((((((V2.setCell ⟨Q, 0, none⟩ (.int .i64 0)).setCell ⟨Q, 1, none⟩ (.int .i64 0)).setCell ⟨Q, 2, none⟩ (.int .i64 0)).setCell ⟨Q, 3, none⟩ (.int .i64 0)).setCell ⟨Q, 4, none⟩ (.string { data := #[] })).setCell ⟨Q, 5, none⟩ (.int .i64 0)).setCell ⟨Q, 6, none⟩ (.int .i64 0)).setCell ⟨Q, 7, none⟩ (.int .i64 0)).setCell ⟨Q, 8, none⟩ (.int .i64 0)).setCell ⟨Q, 9, none⟩ (.int .i64 0)).setCell ⟨Q, 10, none⟩ (.int .i64 0)).setCell ⟨Q, 11, none⟩ (.int .i64 0)) = W9
  intro HW9
  have r0 := HW9.out.1.cell (i := 0) rfl
  have r1 := HW9.out.1.cell (i := 1) rfl
  have r2 := HW9.out.1.cell (i := 2) rfl
  have r3 := HW9.out.1.cell (i := 3) rfl
  have r4 := HW9.out.1.cell (i := 4) rfl
  have r5 := HW9.out.1.cell (i := 5) rfl
  have r6 := HW9.out.1.cell (i := 6) rfl
  have r7 := HW9.out.1.cell (i := 7) rfl
  have r8 := HW9.out.1.cell (i := 8) rfl
  have r9 := HW9.out.1.cell (i := 9) rfl
  have r10 := HW9.out.1.cell (i := 10) rfl
  have r11 := HW9.out.1.cell (i := 11) rfl
  (try simp only [Exit.inBlock, Exit.then])
  exact bodyPost_ret (v := .agg x.c.toArray) (by rw [← HX.out]; simp [results, Tryd.results11, go_sem, r0, r1, r2, r3, r4, r5, r6, r7, r8, r9, r10, r11, Ev.c]) rfl ⟨rfl, HW9.out.2⟩
end Go.Proofs.YtfhhkmjjifbfeaaDoor
