/- Log: the event of a line. -/
import Derived.Test.YtfhhkmjjifbfeaaDoorLo15
import Derived.WalkKit
import Derived.ProofKit
import Derived.Handy
import Derived.WalkLawsBesides
import Derived.WalkSpells
import Derived.Lib.Hide
import Derived.Lib.SliceRun
import Derived.Deep.RegionLaw
import Derived.RegionTactic
import Derived.ChangeAlike
import Derived.WalkSmall
import Derived.Deep.QuietTactic
import Derived.BigQuiet
import Derived.OwnWalk
import Derived.Outline
import Derived.Deep.CutRange
import Derived.Deep.CutBlock
import Derived.LoopTactic
namespace Go.Proofs.YtfhhkmjjifbfeaaDoor
open Go.ChangeShapes Go.WideShapes Go.ChangeAt Go.RowKit
set_option linter.unusedSimpArgs false
set_option linter.unusedVariables false

theorem lo_print12 (k i n t : Int) (b : ByteArray) (e s0 s1 s2 s3 s4 s5 : Int) (hok : Ev.ok ⟨k, i, n, t, b, e, s0, s1, s2, s3, s4, s5⟩) (hb : b.size ≤ 4000) (R : ByteArray) (er : Int) (hR : Lo.pr ⟨k, i, n, t, b, e, s0, s1, s2, s3, s4, s5⟩ = (R, er)) (w : World) (htab : Lib.TabIs Tryd.prog w "internal/strconv.uint64pow10" .u64 Lib.pow10Tab) (hwi : WI w) (hsi : SI w) :
    Calls Tryd.prog 12 #[.agg #[.int .i64 k, .int .i64 i, .int .i64 n, .int .i64 t, .string b, .int .i64 e, .int .i64 s0, .int .i64 s1, .int .i64 s2, .int .i64 s3, .int .i64 s4, .int .i64 s5]] w fun e w' => e = .returned (.tuple #[.string R, .int .i64 er]) ∧ Below w.heap.size w w' := lo_print ⟨k, i, n, t, b, e, s0, s1, s2, s3, s4, s5⟩ hok hb R er hR w htab hwi hsi
theorem lo_read12 (s : ByteArray) (hs : s.size ≤ 4000) (k i n t : Int) (b : ByteArray) (e s0 s1 s2 s3 s4 s5 : Int) (hx : Lo.read s.data.toList = ⟨k, i, n, t, b, e, s0, s1, s2, s3, s4, s5⟩) (w : World) (hni : NI w) (hwi : WI w) (hsi : SI w) :
    Calls Tryd.prog 11 #[.string s] w fun r w' => r = .returned (.agg #[.int .i64 k, .int .i64 i, .int .i64 n, .int .i64 t, .string b, .int .i64 e, .int .i64 s0, .int .i64 s1, .int .i64 s2, .int .i64 s3, .int .i64 s4, .int .i64 s5]) ∧ Below w.heap.size w w' := lo_read s hs ⟨k, i, n, t, b, e, s0, s1, s2, s3, s4, s5⟩ hx w hni hwi hsi
set_option maxRecDepth 20000 in
set_option maxHeartbeats 16000000 in
theorem lo_parse (s : ByteArray) (hs : s.size ≤ 4000) (x : Ev) (er : Int) (hx : Lo.parse s = (x, er)) (w : World) (htab : Lib.TabIs Tryd.prog w "internal/strconv.uint64pow10" .u64 Lib.pow10Tab) (hni : NI w) (hwi : WI w) (hsi : SI w) :
    Calls Tryd.prog 7 #[.string s] w fun e w' => e = .returned (.tuple #[.agg x.c.toArray, .int .i64 er]) ∧ Below w.heap.size w w' := by
  obtain ⟨y, hy⟩ : ∃ y, Lo.read s.data.toList = y := ⟨_, rfl⟩
  have hyo := Lo.read_ok s.data.toList (by have : s.data.toList.length = s.size := rfl; omega)
  have hsz : s.data.toList.length = s.size := rfl
  rw [hy] at hyo
  obtain ⟨k, i, n, t, b, e, s0, s1, s2, s3, s4, s5⟩ := y
  have hyb : b.size ≤ 4000 := by have := hyo.2; dsimp only at this; omega
  obtain ⟨R, pe, hp⟩ : ∃ R pe, Lo.pr ⟨k, i, n, t, b, e, s0, s1, s2, s3, s4, s5⟩ = (R, pe) := ⟨_, _, rfl⟩
  unfold Lo.parse at hx
  rw [hy, hp] at hx
  have HC := Lib.hid (And.intro hs (And.intro hy (And.intro hp (And.intro hyo.1 hyb))))
  have HI := Lib.hid (And.intro htab (And.intro hni (And.intro hwi hsi)))
  have HQ : Hid (LQ w (w.alloc (.cells #[.int .i64 0, .int .i64 0, .int .i64 0, .int .i64 0, .string { data := #[] }, .int .i64 0, .int .i64 0, .int .i64 0, .int .i64 0, .int .i64 0, .int .i64 0, .int .i64 0] 32)) w.heap.size) := Lib.hid (LQ.new w)
  clear hs hy hp hyo hyb hsz htab hni hwi hsi
  go_enter Tryd.func7, Tryd.ntmps7
  go_upto_region 1 with fail
  revert HQ
  generalize (w.alloc (.cells #[.int .i64 0, .int .i64 0, .int .i64 0, .int .i64 0, .string { data := #[] }, .int .i64 0, .int .i64 0, .int .i64 0, .int .i64 0, .int .i64 0, .int .i64 0, .int .i64 0] 32)) = W0
  generalize w.heap.size = Q
  intro HQ
  go_upto_region 2 with (go_at_call 11; (with_reducible refine (lo_read12 s HC.out.1 k i n t b e s0 s1 s2 s3 s4 s5 HC.out.2.1 _ (HI.out.2.1.below HQ.out.be) (HI.out.2.2.1.below HQ.out.be) (HI.out.2.2.2.below HQ.out.be)).mono ?_); rintro e1 V1 ⟨rfl, q3⟩; have HQn := Lib.hid (HQ.out.below q3); clear HQ; have HQ := HQn; clear HQn q3)
  have HB : Hid (LQ w (V1.alloc (.cells #[.int .i64 k, .int .i64 i, .int .i64 n, .int .i64 t, .string b, .int .i64 e, .int .i64 s0, .int .i64 s1, .int .i64 s2, .int .i64 s3, .int .i64 s4, .int .i64 s5] 32)) Q ∧ Blk (V1.alloc (.cells #[.int .i64 k, .int .i64 i, .int .i64 n, .int .i64 t, .string b, .int .i64 e, .int .i64 s0, .int .i64 s1, .int .i64 s2, .int .i64 s3, .int .i64 s4, .int .i64 s5] 32)) V1.heap.size [.int .i64 k, .int .i64 i, .int .i64 n, .int .i64 t, .string b, .int .i64 e, .int .i64 s0, .int .i64 s1, .int .i64 s2, .int .i64 s3, .int .i64 s4, .int .i64 s5] 32) := Lib.hid ⟨HQ.out.below ((Below.refl _ _).alloc (Nat.le_refl _) _), Blk.newA _ _ _⟩
  clear HQ
  revert HB
  generalize (V1.alloc (.cells #[.int .i64 k, .int .i64 i, .int .i64 n, .int .i64 t, .string b, .int .i64 e, .int .i64 s0, .int .i64 s1, .int .i64 s2, .int .i64 s3, .int .i64 s4, .int .i64 s5] 32)) = W1
  generalize V1.heap.size = X
  intro HB
  have d0 := HB.out.2.cell (i := 0) rfl
  have d1 := HB.out.2.cell (i := 1) rfl
  have d2 := HB.out.2.cell (i := 2) rfl
  have d3 := HB.out.2.cell (i := 3) rfl
  have d4 := HB.out.2.cell (i := 4) rfl
  have d5 := HB.out.2.cell (i := 5) rfl
  have d6 := HB.out.2.cell (i := 6) rfl
  have d7 := HB.out.2.cell (i := 7) rfl
  have d8 := HB.out.2.cell (i := 8) rfl
  have d9 := HB.out.2.cell (i := 9) rfl
  have d10 := HB.out.2.cell (i := 10) rfl
  have d11 := HB.out.2.cell (i := 11) rfl
  go_upto_region 3 with (go_at_call 12; (with_reducible refine (lo_print12 k i n t b e s0 s1 s2 s3 s4 s5 HC.out.2.2.2.1 HC.out.2.2.2.2 R pe HC.out.2.2.1 _ (tab_below HB.out.1.be HI.out.1) (HI.out.2.2.1.below HB.out.1.be) (HI.out.2.2.2.below HB.out.1.be)).mono ?_); rintro e1 V2 ⟨rfl, q3⟩; have HBn := Lib.hid (And.intro (HB.out.1.below q3) (HB.out.2.chg (l := []) (Chg.of_fresh q3) (by simp))); clear HB; have HB := HBn; clear HBn q3)
  clear d0 d1 d2 d3 d4 d5 d6 d7 d8 d9 d10 d11
  by_cases hpe : pe = 0
  · subst hpe
    by_cases hR : R = s
    · subst hR
      rw [if_pos rfl] at hx
      have HX : Hid ((⟨k, i, n, t, b, e, s0, s1, s2, s3, s4, s5⟩ : Ev) = x ∧ (0 : Int) = er) := Lib.hid (Prod.mk.inj hx)
      have b1 : (R.toList == R.toList) = true := by simp
      clear hx
      have q0 := HB.out.1.bq.cell (i := 0) rfl
      have g0 := HB.out.1.bq.free 0
      have q1 := HB.out.1.bq.cell (i := 1) rfl
      have g1 := HB.out.1.bq.free 1
      have q2 := HB.out.1.bq.cell (i := 2) rfl
      have g2 := HB.out.1.bq.free 2
      have q3 := HB.out.1.bq.cell (i := 3) rfl
      have g3 := HB.out.1.bq.free 3
      have q4 := HB.out.1.bq.cell (i := 4) rfl
      have g4 := HB.out.1.bq.free 4
      have q5 := HB.out.1.bq.cell (i := 5) rfl
      have g5 := HB.out.1.bq.free 5
      have q6 := HB.out.1.bq.cell (i := 6) rfl
      have g6 := HB.out.1.bq.free 6
      have q7 := HB.out.1.bq.cell (i := 7) rfl
      have g7 := HB.out.1.bq.free 7
      have q8 := HB.out.1.bq.cell (i := 8) rfl
      have g8 := HB.out.1.bq.free 8
      have q9 := HB.out.1.bq.cell (i := 9) rfl
      have g9 := HB.out.1.bq.free 9
      have q10 := HB.out.1.bq.cell (i := 10) rfl
      have g10 := HB.out.1.bq.free 10
      have q11 := HB.out.1.bq.cell (i := 11) rfl
      have g11 := HB.out.1.bq.free 11
      have d0 := HB.out.2.cell (i := 0) rfl
      have d1 := HB.out.2.cell (i := 1) rfl
      have d2 := HB.out.2.cell (i := 2) rfl
      have d3 := HB.out.2.cell (i := 3) rfl
      have d4 := HB.out.2.cell (i := 4) rfl
      have d5 := HB.out.2.cell (i := 5) rfl
      have d6 := HB.out.2.cell (i := 6) rfl
      have d7 := HB.out.2.cell (i := 7) rfl
      have d8 := HB.out.2.cell (i := 8) rfl
      have d9 := HB.out.2.cell (i := 9) rfl
      have d10 := HB.out.2.cell (i := 10) rfl
      have d11 := HB.out.2.cell (i := 11) rfl
      go_wp2_with fail
      have HW9 : Hid (Blk ((((((((((((V2.setCell ⟨Q, 0, none⟩ (.int .i64 k)).setCell ⟨Q, 1, none⟩ (.int .i64 i)).setCell ⟨Q, 2, none⟩ (.int .i64 n)).setCell ⟨Q, 3, none⟩ (.int .i64 t)).setCell ⟨Q, 4, none⟩ (.string b)).setCell ⟨Q, 5, none⟩ (.int .i64 e)).setCell ⟨Q, 6, none⟩ (.int .i64 s0)).setCell ⟨Q, 7, none⟩ (.int .i64 s1)).setCell ⟨Q, 8, none⟩ (.int .i64 s2)).setCell ⟨Q, 9, none⟩ (.int .i64 s3)).setCell ⟨Q, 10, none⟩ (.int .i64 s4)).setCell ⟨Q, 11, none⟩ (.int .i64 s5)) Q [.int .i64 k, .int .i64 i, .int .i64 n, .int .i64 t, .string b, .int .i64 e, .int .i64 s0, .int .i64 s1, .int .i64 s2, .int .i64 s3, .int .i64 s4, .int .i64 s5] 32 ∧ Below w.heap.size w ((((((((((((V2.setCell ⟨Q, 0, none⟩ (.int .i64 k)).setCell ⟨Q, 1, none⟩ (.int .i64 i)).setCell ⟨Q, 2, none⟩ (.int .i64 n)).setCell ⟨Q, 3, none⟩ (.int .i64 t)).setCell ⟨Q, 4, none⟩ (.string b)).setCell ⟨Q, 5, none⟩ (.int .i64 e)).setCell ⟨Q, 6, none⟩ (.int .i64 s0)).setCell ⟨Q, 7, none⟩ (.int .i64 s1)).setCell ⟨Q, 8, none⟩ (.int .i64 s2)).setCell ⟨Q, 9, none⟩ (.int .i64 s3)).setCell ⟨Q, 10, none⟩ (.int .i64 s4)).setCell ⟨Q, 11, none⟩ (.int .i64 s5))) := Lib.hid (HB.out.1.fill _ _ _ _ _ _ _ _ _ _ _ _)
      clear q0 g0 d0 q1 g1 d1 q2 g2 d2 q3 g3 d3 q4 g4 d4 q5 g5 d5 q6 g6 d6 q7 g7 d7 q8 g8 d8 q9 g9 d9 q10 g10 d10 q11 g11 d11
      revert HW9
      generalize ((((((((((((V2.setCell ⟨Q, 0, none⟩ (.int .i64 k)).setCell ⟨Q, 1, none⟩ (.int .i64 i)).setCell ⟨Q, 2, none⟩ (.int .i64 n)).setCell ⟨Q, 3, none⟩ (.int .i64 t)).setCell ⟨Q, 4, none⟩ (.string b)).setCell ⟨Q, 5, none⟩ (.int .i64 e)).setCell ⟨Q, 6, none⟩ (.int .i64 s0)).setCell ⟨Q, 7, none⟩ (.int .i64 s1)).setCell ⟨Q, 8, none⟩ (.int .i64 s2)).setCell ⟨Q, 9, none⟩ (.int .i64 s3)).setCell ⟨Q, 10, none⟩ (.int .i64 s4)).setCell ⟨Q, 11, none⟩ (.int .i64 s5)) = W9
      intro HW9
      have r0 := HW9.out.1.cell (i := 0) rfl
      have r1 := HW9.out.1.cell (i := 1) rfl
      have r2 := HW9.out.1.cell (i := 2) rfl
      have r3 := HW9.out.1.cell (i := 3) rfl
      have r4 := HW9.out.1.cell (i := 4) rfl
      have r5 := HW9.out.1.cell (i := 5) rfl
      have r6 := HW9.out.1.cell (i := 6) rfl
      have r7 := HW9.out.1.cell (i := 7) rfl
      have r8 := HW9.out.1.cell (i := 8) rfl
      have r9 := HW9.out.1.cell (i := 9) rfl
      have r10 := HW9.out.1.cell (i := 10) rfl
      have r11 := HW9.out.1.cell (i := 11) rfl
      (try simp only [Exit.inBlock, Exit.then])
      exact bodyPost_ret (v := .tuple #[.agg x.c.toArray, .int .i64 er]) (by rw [← HX.out.1, ← HX.out.2]; simp [results, Tryd.results7, go_sem, r0, r1, r2, r3, r4, r5, r6, r7, r8, r9, r10, r11, Ev.c, Ev.none]) rfl ⟨rfl, HW9.out.2⟩
    · rw [if_neg (fun h => hR (Prod.mk.inj h).1)] at hx
      have HX : Hid (Ev.none = x ∧ (2 : Int) = er) := Lib.hid (Prod.mk.inj hx)
      have b1 : (R.toList == s.toList) = false := by
        rw [beq_eq_false_iff_ne]
        intro h
        rw [Lib.toList_data, Lib.toList_data] at h
        exact hR (ByteArray.ext (Array.ext' h))
      clear hx hR
      have q0 := HB.out.1.bq.cell (i := 0) rfl
      have g0 := HB.out.1.bq.free 0
      have q1 := HB.out.1.bq.cell (i := 1) rfl
      have g1 := HB.out.1.bq.free 1
      have q2 := HB.out.1.bq.cell (i := 2) rfl
      have g2 := HB.out.1.bq.free 2
      have q3 := HB.out.1.bq.cell (i := 3) rfl
      have g3 := HB.out.1.bq.free 3
      have q4 := HB.out.1.bq.cell (i := 4) rfl
      have g4 := HB.out.1.bq.free 4
      have q5 := HB.out.1.bq.cell (i := 5) rfl
      have g5 := HB.out.1.bq.free 5
      have q6 := HB.out.1.bq.cell (i := 6) rfl
      have g6 := HB.out.1.bq.free 6
      have q7 := HB.out.1.bq.cell (i := 7) rfl
      have g7 := HB.out.1.bq.free 7
      have q8 := HB.out.1.bq.cell (i := 8) rfl
      have g8 := HB.out.1.bq.free 8
      have q9 := HB.out.1.bq.cell (i := 9) rfl
      have g9 := HB.out.1.bq.free 9
      have q10 := HB.out.1.bq.cell (i := 10) rfl
      have g10 := HB.out.1.bq.free 10
      have q11 := HB.out.1.bq.cell (i := 11) rfl
      have g11 := HB.out.1.bq.free 11
      have d0 := HB.out.2.cell (i := 0) rfl
      have d1 := HB.out.2.cell (i := 1) rfl
      have d2 := HB.out.2.cell (i := 2) rfl
      have d3 := HB.out.2.cell (i := 3) rfl
      have d4 := HB.out.2.cell (i := 4) rfl
      have d5 := HB.out.2.cell (i := 5) rfl
      have d6 := HB.out.2.cell (i := 6) rfl
      have d7 := HB.out.2.cell (i := 7) rfl
      have d8 := HB.out.2.cell (i := 8) rfl
      have d9 := HB.out.2.cell (i := 9) rfl
      have d10 := HB.out.2.cell (i := 10) rfl
      have d11 := HB.out.2.cell (i := 11) rfl
      go_wp2_with fail
      have HW9 : Hid (Blk ((((((((((((V2.setCell ⟨Q, 0, none⟩ (.int .i64 0)).setCell ⟨Q, 1, none⟩ (.int .i64 0)).setCell ⟨Q, 2, none⟩ (.int .i64 0)).setCell ⟨Q, 3, none⟩ (.int .i64 0)).setCell ⟨Q, 4, none⟩ (.string { data := #[] })).setCell ⟨Q, 5, none⟩ (.int .i64 0)).setCell ⟨Q, 6, none⟩ (.int .i64 0)).setCell ⟨Q, 7, none⟩ (.int .i64 0)).setCell ⟨Q, 8, none⟩ (.int .i64 0)).setCell ⟨Q, 9, none⟩ (.int .i64 0)).setCell ⟨Q, 10, none⟩ (.int .i64 0)).setCell ⟨Q, 11, none⟩ (.int .i64 0)) Q [.int .i64 0, .int .i64 0, .int .i64 0, .int .i64 0, .string { data := #[] }, .int .i64 0, .int .i64 0, .int .i64 0, .int .i64 0, .int .i64 0, .int .i64 0, .int .i64 0] 32 ∧ Below w.heap.size w ((((((((((((V2.setCell ⟨Q, 0, none⟩ (.int .i64 0)).setCell ⟨Q, 1, none⟩ (.int .i64 0)).setCell ⟨Q, 2, none⟩ (.int .i64 0)).setCell ⟨Q, 3, none⟩ (.int .i64 0)).setCell ⟨Q, 4, none⟩ (.string { data := #[] })).setCell ⟨Q, 5, none⟩ (.int .i64 0)).setCell ⟨Q, 6, none⟩ (.int .i64 0)).setCell ⟨Q, 7, none⟩ (.int .i64 0)).setCell ⟨Q, 8, none⟩ (.int .i64 0)).setCell ⟨Q, 9, none⟩ (.int .i64 0)).setCell ⟨Q, 10, none⟩ (.int .i64 0)).setCell ⟨Q, 11, none⟩ (.int .i64 0))) := Lib.hid (HB.out.1.fill _ _ _ _ _ _ _ _ _ _ _ _)
      clear q0 g0 d0 q1 g1 d1 q2 g2 d2 q3 g3 d3 q4 g4 d4 q5 g5 d5 q6 g6 d6 q7 g7 d7 q8 g8 d8 q9 g9 d9 q10 g10 d10 q11 g11 d11
      revert HW9
      generalize ((((((((((((V2.setCell ⟨Q, 0, none⟩ (.int .i64 0)).setCell ⟨Q, 1, none⟩ (.int .i64 0)).setCell ⟨Q, 2, none⟩ (.int .i64 0)).setCell ⟨Q, 3, none⟩ (.int .i64 0)).setCell ⟨Q, 4, none⟩ (.string { data := #[] })).setCell ⟨Q, 5, none⟩ (.int .i64 0)).setCell ⟨Q, 6, none⟩ (.int .i64 0)).setCell ⟨Q, 7, none⟩ (.int .i64 0)).setCell ⟨Q, 8, none⟩ (.int .i64 0)).setCell ⟨Q, 9, none⟩ (.int .i64 0)).setCell ⟨Q, 10, none⟩ (.int .i64 0)).setCell ⟨Q, 11, none⟩ (.int .i64 0)) = W9
      intro HW9
      have r0 := HW9.out.1.cell (i := 0) rfl
      have r1 := HW9.out.1.cell (i := 1) rfl
      have r2 := HW9.out.1.cell (i := 2) rfl
      have r3 := HW9.out.1.cell (i := 3) rfl
      have r4 := HW9.out.1.cell (i := 4) rfl
      have r5 := HW9.out.1.cell (i := 5) rfl
      have r6 := HW9.out.1.cell (i := 6) rfl
      have r7 := HW9.out.1.cell (i := 7) rfl
      have r8 := HW9.out.1.cell (i := 8) rfl
      have r9 := HW9.out.1.cell (i := 9) rfl
      have r10 := HW9.out.1.cell (i := 10) rfl
      have r11 := HW9.out.1.cell (i := 11) rfl
      (try simp only [Exit.inBlock, Exit.then])
      exact bodyPost_ret (v := .tuple #[.agg x.c.toArray, .int .i64 er]) (by rw [← HX.out.1, ← HX.out.2]; simp [results, Tryd.results7, go_sem, r0, r1, r2, r3, r4, r5, r6, r7, r8, r9, r10, r11, Ev.c, Ev.none]) rfl ⟨rfl, HW9.out.2⟩
  · rw [if_neg (fun h => hpe (Prod.mk.inj h).2)] at hx
    have HX : Hid (Ev.none = x ∧ (2 : Int) = er) := Lib.hid (Prod.mk.inj hx)
    clear hx
    have q0 := HB.out.1.bq.cell (i := 0) rfl
    have g0 := HB.out.1.bq.free 0
    have q1 := HB.out.1.bq.cell (i := 1) rfl
    have g1 := HB.out.1.bq.free 1
    have q2 := HB.out.1.bq.cell (i := 2) rfl
    have g2 := HB.out.1.bq.free 2
    have q3 := HB.out.1.bq.cell (i := 3) rfl
    have g3 := HB.out.1.bq.free 3
    have q4 := HB.out.1.bq.cell (i := 4) rfl
    have g4 := HB.out.1.bq.free 4
    have q5 := HB.out.1.bq.cell (i := 5) rfl
    have g5 := HB.out.1.bq.free 5
    have q6 := HB.out.1.bq.cell (i := 6) rfl
    have g6 := HB.out.1.bq.free 6
    have q7 := HB.out.1.bq.cell (i := 7) rfl
    have g7 := HB.out.1.bq.free 7
    have q8 := HB.out.1.bq.cell (i := 8) rfl
    have g8 := HB.out.1.bq.free 8
    have q9 := HB.out.1.bq.cell (i := 9) rfl
    have g9 := HB.out.1.bq.free 9
    have q10 := HB.out.1.bq.cell (i := 10) rfl
    have g10 := HB.out.1.bq.free 10
    have q11 := HB.out.1.bq.cell (i := 11) rfl
    have g11 := HB.out.1.bq.free 11
    have d0 := HB.out.2.cell (i := 0) rfl
    have d1 := HB.out.2.cell (i := 1) rfl
    have d2 := HB.out.2.cell (i := 2) rfl
    have d3 := HB.out.2.cell (i := 3) rfl
    have d4 := HB.out.2.cell (i := 4) rfl
    have d5 := HB.out.2.cell (i := 5) rfl
    have d6 := HB.out.2.cell (i := 6) rfl
    have d7 := HB.out.2.cell (i := 7) rfl
    have d8 := HB.out.2.cell (i := 8) rfl
    have d9 := HB.out.2.cell (i := 9) rfl
    have d10 := HB.out.2.cell (i := 10) rfl
    have d11 := HB.out.2.cell (i := 11) rfl
    go_wp2_with fail
    have HW9 : Hid (Blk ((((((((((((V2.setCell ⟨Q, 0, none⟩ (.int .i64 0)).setCell ⟨Q, 1, none⟩ (.int .i64 0)).setCell ⟨Q, 2, none⟩ (.int .i64 0)).setCell ⟨Q, 3, none⟩ (.int .i64 0)).setCell ⟨Q, 4, none⟩ (.string { data := #[] })).setCell ⟨Q, 5, none⟩ (.int .i64 0)).setCell ⟨Q, 6, none⟩ (.int .i64 0)).setCell ⟨Q, 7, none⟩ (.int .i64 0)).setCell ⟨Q, 8, none⟩ (.int .i64 0)).setCell ⟨Q, 9, none⟩ (.int .i64 0)).setCell ⟨Q, 10, none⟩ (.int .i64 0)).setCell ⟨Q, 11, none⟩ (.int .i64 0)) Q [.int .i64 0, .int .i64 0, .int .i64 0, .int .i64 0, .string { data := #[] }, .int .i64 0, .int .i64 0, .int .i64 0, .int .i64 0, .int .i64 0, .int .i64 0, .int .i64 0] 32 ∧ Below w.heap.size w ((((((((((((V2.setCell ⟨Q, 0, none⟩ (.int .i64 0)).setCell ⟨Q, 1, none⟩ (.int .i64 0)).setCell ⟨Q, 2, none⟩ (.int .i64 0)).setCell ⟨Q, 3, none⟩ (.int .i64 0)).setCell ⟨Q, 4, none⟩ (.string { data := #[] })).setCell ⟨Q, 5, none⟩ (.int .i64 0)).setCell ⟨Q, 6, none⟩ (.int .i64 0)).setCell ⟨Q, 7, none⟩ (.int .i64 0)).setCell ⟨Q, 8, none⟩ (.int .i64 0)).setCell ⟨Q, 9, none⟩ (.int .i64 0)).setCell ⟨Q, 10, none⟩ (.int .i64 0)).setCell ⟨Q, 11, none⟩ (.int .i64 0))) := Lib.hid (HB.out.1.fill _ _ _ _ _ _ _ _ _ _ _ _)
    clear q0 g0 d0 q1 g1 d1 q2 g2 d2 q3 g3 d3 q4 g4 d4 q5 g5 d5 q6 g6 d6 q7 g7 d7 q8 g8 d8 q9 g9 d9 q10 g10 d10 q11 g11 d11
    revert HW9
    generalize ((((((((((((V2.setCell ⟨Q, 0, none⟩ (.int .i64 0)).setCell ⟨Q, 1, none⟩ (.int .i64 0)).setCell ⟨Q, 2, none⟩ (.int .i64 0)).setCell ⟨Q, 3, none⟩ (.int .i64 0)).setCell ⟨Q, 4, none⟩ (.string { data := #[] })).setCell ⟨Q, 5, none⟩ (.int .i64 0)).setCell ⟨Q, 6, none⟩ (.int .i64 0)).setCell ⟨Q, 7, none⟩ (.int .i64 0)).setCell ⟨Q, 8, none⟩ (.int .i64 0)).setCell ⟨Q, 9, none⟩ (.int .i64 0)).setCell ⟨Q, 10, none⟩ (.int .i64 0)).setCell ⟨Q, 11, none⟩ (.int .i64 0)) = W9
    intro HW9
    have r0 := HW9.out.1.cell (i := 0) rfl
    have r1 := HW9.out.1.cell (i := 1) rfl
    have r2 := HW9.out.1.cell (i := 2) rfl
    have r3 := HW9.out.1.cell (i := 3) rfl
    have r4 := HW9.out.1.cell (i := 4) rfl
    have r5 := HW9.out.1.cell (i := 5) rfl
    have r6 := HW9.out.1.cell (i := 6) rfl
    have r7 := HW9.out.1.cell (i := 7) rfl
    have r8 := HW9.out.1.cell (i := 8) rfl
    have r9 := HW9.out.1.cell (i := 9) rfl
    have r10 := HW9.out.1.cell (i := 10) rfl
    have r11 := HW9.out.1.cell (i := 11) rfl
    (try simp only [Exit.inBlock, Exit.then])
    exact bodyPost_ret (v := .tuple #[.agg x.c.toArray, .int .i64 er]) (by rw [← HX.out.1, ← HX.out.2]; simp [results, Tryd.results7, go_sem, r0, r1, r2, r3, r4, r5, r6, r7, r8, r9, r10, r11, Ev.c, Ev.none]) rfl ⟨rfl, HW9.out.2⟩
end Go.Proofs.YtfhhkmjjifbfeaaDoor
