/- Log: a line that has bytes. -/
import Derived.Test.YtfhhkmjjifbfeaaDoorLo10
import Derived.Test.YtfhhkmjjifbfeaaDoorEv1
import Derived.Test.YtfhhkmjjifbfeaaDoorQt4
import Derived.Test.YtfhhkmjjifbfeaaDoorLe5
import Derived.WalkKit
import Derived.ProofKit
import Derived.Handy
import Derived.WalkLawsBesides
import Derived.WalkSpells
import Derived.Lib.Hide
import Derived.Lib.SliceRun
import Derived.Deep.RegionLaw
import Derived.RegionTactic
import Derived.ChangeAlike
import Derived.WalkSmall
import Derived.Deep.QuietTactic
import Derived.BigQuiet
import Derived.OwnWalk
import Derived.Outline
import Derived.Deep.CutRange
import Derived.Deep.CutBlock
import Derived.LoopTactic
namespace Go.Proofs.YtfhhkmjjifbfeaaDoor
open Go.ChangeShapes Go.WideShapes Go.ChangeAt Go.RowKit
set_option linter.unusedSimpArgs false
set_option linter.unusedVariables false

/-- The event of a line that has bytes. -/
def Lo.readB (kd : Int) (l : List UInt8) : Ev := ⟨kd, Lo.num (Lib.cut l [32]).1, ((Qt.whole (Lib.cut l [32]).2.1).1.length : Int), 0, Le.t (Qt.whole (Lib.cut l [32]).2.1).1, 0, 0, 0, 0, 0, 0, 0⟩
theorem Lo.cut_le (l : List UInt8) : (Lib.cut l [32]).1.length ≤ l.length ∧ (Lib.cut l [32]).2.1.length ≤ l.length := by
  unfold Lib.cut
  split <;> simp [List.length_take, List.length_drop] <;> omega
/-- A result beside what is. -/
structure LQ (w W : World) (Q : Nat) : Prop where
  bq : Blk W Q [.int .i64 0, .int .i64 0, .int .i64 0, .int .i64 0, .string { data := #[] }, .int .i64 0, .int .i64 0, .int .i64 0, .int .i64 0, .int .i64 0, .int .i64 0, .int .i64 0] 32
  be : Below w.heap.size w W
  lt : w.heap.size ≤ Q
theorem LQ.below {w W W' : World} {Q : Nat} (h : LQ w W Q) (k : Below W.heap.size W W') : LQ w W' Q := ⟨h.bq.chg (l := []) (Chg.of_fresh k) (by simp), h.be.trans (k.mono h.be.size), h.lt⟩
theorem LQ.fill {w W : World} {Q : Nat} (h : LQ w W Q) (v0 v1 v2 v3 v4 v5 v6 v7 v8 v9 v10 v11 : Value) : Blk ((((((((((((W.setCell ⟨Q, 0, none⟩ (v0)).setCell ⟨Q, 1, none⟩ (v1)).setCell ⟨Q, 2, none⟩ (v2)).setCell ⟨Q, 3, none⟩ (v3)).setCell ⟨Q, 4, none⟩ (v4)).setCell ⟨Q, 5, none⟩ (v5)).setCell ⟨Q, 6, none⟩ (v6)).setCell ⟨Q, 7, none⟩ (v7)).setCell ⟨Q, 8, none⟩ (v8)).setCell ⟨Q, 9, none⟩ (v9)).setCell ⟨Q, 10, none⟩ (v10)).setCell ⟨Q, 11, none⟩ (v11)) Q [v0, v1, v2, v3, v4, v5, v6, v7, v8, v9, v10, v11] 32 ∧ Below w.heap.size w ((((((((((((W.setCell ⟨Q, 0, none⟩ (v0)).setCell ⟨Q, 1, none⟩ (v1)).setCell ⟨Q, 2, none⟩ (v2)).setCell ⟨Q, 3, none⟩ (v3)).setCell ⟨Q, 4, none⟩ (v4)).setCell ⟨Q, 5, none⟩ (v5)).setCell ⟨Q, 6, none⟩ (v6)).setCell ⟨Q, 7, none⟩ (v7)).setCell ⟨Q, 8, none⟩ (v8)).setCell ⟨Q, 9, none⟩ (v9)).setCell ⟨Q, 10, none⟩ (v10)).setCell ⟨Q, 11, none⟩ (v11)) := by
  have k : Chg [Q] W ((((((((((((W.setCell ⟨Q, 0, none⟩ (v0)).setCell ⟨Q, 1, none⟩ (v1)).setCell ⟨Q, 2, none⟩ (v2)).setCell ⟨Q, 3, none⟩ (v3)).setCell ⟨Q, 4, none⟩ (v4)).setCell ⟨Q, 5, none⟩ (v5)).setCell ⟨Q, 6, none⟩ (v6)).setCell ⟨Q, 7, none⟩ (v7)).setCell ⟨Q, 8, none⟩ (v8)).setCell ⟨Q, 9, none⟩ (v9)).setCell ⟨Q, 10, none⟩ (v10)).setCell ⟨Q, 11, none⟩ (v11)) := (((((((((((((Chg.refl [Q] W).set (Or.inl (List.mem_singleton.2 rfl)) 0 v0).set (Or.inl (List.mem_singleton.2 rfl)) 1 v1).set (Or.inl (List.mem_singleton.2 rfl)) 2 v2).set (Or.inl (List.mem_singleton.2 rfl)) 3 v3).set (Or.inl (List.mem_singleton.2 rfl)) 4 v4).set (Or.inl (List.mem_singleton.2 rfl)) 5 v5).set (Or.inl (List.mem_singleton.2 rfl)) 6 v6).set (Or.inl (List.mem_singleton.2 rfl)) 7 v7).set (Or.inl (List.mem_singleton.2 rfl)) 8 v8).set (Or.inl (List.mem_singleton.2 rfl)) 9 v9).set (Or.inl (List.mem_singleton.2 rfl)) 10 v10).set (Or.inl (List.mem_singleton.2 rfl)) 11 v11)
  exact ⟨((((((((((((h.bq.set 0 v0).set 1 v1).set 2 v2).set 3 v3).set 4 v4).set 5 v5).set 6 v6).set 7 v7).set 8 v8).set 9 v9).set 10 v10).set 11 v11), h.be.trans (k.below h.be.size (by intro y hy; simp at hy; rw [hy]; exact h.lt))⟩
theorem LQ.new (w : World) : LQ w (w.alloc (.cells #[.int .i64 0, .int .i64 0, .int .i64 0, .int .i64 0, .string { data := #[] }, .int .i64 0, .int .i64 0, .int .i64 0, .int .i64 0, .int .i64 0, .int .i64 0, .int .i64 0] 32)) w.heap.size := ⟨Blk.newA _ _ _, (Below.refl _ _).alloc (Nat.le_refl _) _, Nat.le_refl _⟩
set_option maxRecDepth 20000 in
set_option maxHeartbeats 16000000 in
theorem lo_readBytes (kd : Int) (s : ByteArray) (hs : s.size ≤ 4000) (iv : Int) (q : ByteArray) (hi : Lo.num (Lib.cut s.data.toList [32]).1 = iv) (hq : (Qt.whole (Lib.cut s.data.toList [32]).2.1).1 = q.data.toList) (w : World) (hni : NI w) :
    Calls Tryd.prog 17 #[.int .i64 kd, .string s] w fun e w' => e = .returned (.agg #[.int .i64 kd, .int .i64 iv, .int .i64 (q.size : Int), .int .i64 0, .string q, .int .i64 0, .int .i64 0, .int .i64 0, .int .i64 0, .int .i64 0, .int .i64 0, .int .i64 0]) ∧ Below w.heap.size w w' := by
  obtain ⟨c1, hc1⟩ : ∃ c, (Lib.cut s.data.toList [32]).1 = c := ⟨_, rfl⟩
  obtain ⟨c2, hc2⟩ : ∃ c, (Lib.cut s.data.toList [32]).2.1 = c := ⟨_, rfl⟩
  obtain ⟨er, her⟩ : ∃ er, (Qt.whole c2).2 = er := ⟨_, rfl⟩
  obtain ⟨c3, hc3⟩ : ∃ c, (Lib.cut s.data.toList [32]).2.2 = c := ⟨_, rfl⟩
  have g := Lo.cut_le s.data.toList
  rw [hc1, hc2] at g
  have hsz : s.data.toList.length = s.size := rfl
  rw [hc1] at hi
  rw [hc2] at hq
  obtain ⟨m, hm⟩ := hni.1
  have HC : Hid (∀ W : World, Below w.heap.size w W → Calls Tryd.prog 14 #[.string s, .string { data := #[32] }] W fun e w' => e = .returned (.tuple #[.string (Le.t c1), .string (Le.t c2), .bool c3]) ∧ Below W.heap.size W w') := Lib.hid (fun W k => by
    have l1 := World.block_lt_of_cell? _ _ hm
    refine (Tryd.strings_Cut s { data := #[32] } m W (by omega) ((k.cell l1).trans hm)).mono ?_
    rintro e w' ⟨rfl, n, rfl⟩
    refine ⟨?_, (by have h := Below.refl W.heap.size W; exact ⟨h.os, h.tape, h.output, h.size, h.block⟩)⟩
    have e1 : ({ data := #[32] } : ByteArray).data.toList = [32] := rfl
    rw [e1, hc1, hc2, hc3]; rfl)
  have HW : Hid (∀ W : World, Calls Tryd.prog 32 #[.string (Le.t c2)] W fun en w' => en = .returned (.tuple #[.string q, .int .i64 er]) ∧ Below W.heap.size W w') := Lib.hid (fun W => whole_any (Le.t c2) q er (by rw [Le.t_size]; omega) (by rw [Le.t_list, ← hq, ← her]) W)
  have HN : Hid (∀ (W : World) (bk : Nat), Below w.heap.size w W → Blk W bk [.string (Le.t c1)] 9 → Calls Tryd.prog 16 #[.slice (some ⟨bk, 0, none⟩) 1 1, .int .i64 0] W fun e w' => e = .returned (.int .i64 iv) ∧ Below W.heap.size W w') := Lib.hid (fun W bk k hb => lo_number bk [Le.t c1] 1 rfl (by omega) (by
    intro x hx
    rw [List.mem_singleton] at hx
    rw [hx, Le.t_size]; omega) 0 0 rfl iv (by
    have : Lo.at [Le.t c1] 0 = Le.t c1 := rfl
    rw [this, Le.t_list, hi]) _ W hb (hni.below k))
  clear hi hq hni hc1 hc2 hc3 her hm g hsz hs
  go_enter Tryd.func17, Tryd.ntmps17
  have HB : Hid (LQ w (w.alloc (.cells #[.int .i64 0, .int .i64 0, .int .i64 0, .int .i64 0, .string { data := #[] }, .int .i64 0, .int .i64 0, .int .i64 0, .int .i64 0, .int .i64 0, .int .i64 0, .int .i64 0] 32)) w.heap.size) := Lib.hid (LQ.new w)
  go_upto_region 1 with fail
  revert HB
  generalize (w.alloc (.cells #[.int .i64 0, .int .i64 0, .int .i64 0, .int .i64 0, .string { data := #[] }, .int .i64 0, .int .i64 0, .int .i64 0, .int .i64 0, .int .i64 0, .int .i64 0, .int .i64 0] 32)) = W0
  generalize w.heap.size = Q
  intro HB
  go_wp2_with (first
    | (go_at_call 14; (with_reducible refine (HC.out _ HB.out.be).mono ?_); rintro e1 V1 ⟨rfl, q3⟩; have HBn := Lib.hid (HB.out.below q3); clear HB; have HB := HBn; clear HBn q3)
    | (go_at_call 32; (with_reducible refine (HW.out _).mono ?_); rintro e1 V2 ⟨rfl, q3⟩; have HBn := Lib.hid (HB.out.below q3); clear HB; have HB := HBn; clear HBn q3)
    | (go_at_call 16; (with_reducible refine (HN.out _ _ (HB.out.be.alloc HB.out.be.size _) (Blk.newA _ _ _)).mono ?_); rintro e1 V3 ⟨rfl, q3⟩; have HBn := Lib.hid (HB.out.below (((Below.refl _ _).alloc (Nat.le_refl _) _).trans (q3.mono (by simp)))); clear HB; have HB := HBn; clear HBn q3; have q0 := HB.out.bq.cell (i := 0) rfl; have g0 := HB.out.bq.free 0; have q1 := HB.out.bq.cell (i := 1) rfl; have g1 := HB.out.bq.free 1; have q2 := HB.out.bq.cell (i := 2) rfl; have g2 := HB.out.bq.free 2; have q3 := HB.out.bq.cell (i := 3) rfl; have g3 := HB.out.bq.free 3; have q4 := HB.out.bq.cell (i := 4) rfl; have g4 := HB.out.bq.free 4; have q5 := HB.out.bq.cell (i := 5) rfl; have g5 := HB.out.bq.free 5; have q6 := HB.out.bq.cell (i := 6) rfl; have g6 := HB.out.bq.free 6; have q7 := HB.out.bq.cell (i := 7) rfl; have g7 := HB.out.bq.free 7; have q8 := HB.out.bq.cell (i := 8) rfl; have g8 := HB.out.bq.free 8; have q9 := HB.out.bq.cell (i := 9) rfl; have g9 := HB.out.bq.free 9; have q10 := HB.out.bq.cell (i := 10) rfl; have g10 := HB.out.bq.free 10; have q11 := HB.out.bq.cell (i := 11) rfl; have g11 := HB.out.bq.free 11))
  have HW9 : Hid (Blk ((((((((((((V3.setCell ⟨Q, 0, none⟩ (.int .i64 kd)).setCell ⟨Q, 1, none⟩ (.int .i64 iv)).setCell ⟨Q, 2, none⟩ (.int .i64 (q.size : Int))).setCell ⟨Q, 3, none⟩ (.int .i64 0)).setCell ⟨Q, 4, none⟩ (.string q)).setCell ⟨Q, 5, none⟩ (.int .i64 0)).setCell ⟨Q, 6, none⟩ (.int .i64 0)).setCell ⟨Q, 7, none⟩ (.int .i64 0)).setCell ⟨Q, 8, none⟩ (.int .i64 0)).setCell ⟨Q, 9, none⟩ (.int .i64 0)).setCell ⟨Q, 10, none⟩ (.int .i64 0)).setCell ⟨Q, 11, none⟩ (.int .i64 0)) Q [.int .i64 kd, .int .i64 iv, .int .i64 (q.size : Int), .int .i64 0, .string q, .int .i64 0, .int .i64 0, .int .i64 0, .int .i64 0, .int .i64 0, .int .i64 0, .int .i64 0] 32 ∧ Below w.heap.size w ((((((((((((V3.setCell ⟨Q, 0, none⟩ (.int .i64 kd)).setCell ⟨Q, 1, none⟩ (.int .i64 iv)).setCell ⟨Q, 2, none⟩ (.int .i64 (q.size : Int))).setCell ⟨Q, 3, none⟩ (.int .i64 0)).setCell ⟨Q, 4, none⟩ (.string q)).setCell ⟨Q, 5, none⟩ (.int .i64 0)).setCell ⟨Q, 6, none⟩ (.int .i64 0)).setCell ⟨Q, 7, none⟩ (.int .i64 0)).setCell ⟨Q, 8, none⟩ (.int .i64 0)).setCell ⟨Q, 9, none⟩ (.int .i64 0)).setCell ⟨Q, 10, none⟩ (.int .i64 0)).setCell ⟨Q, 11, none⟩ (.int .i64 0))) := Lib.hid (HB.out.fill _ _ _ _ _ _ _ _ _ _ _ _)
  clear q0 g0 q1 g1 q2 g2 q3 g3 q4 g4 q5 g5 q6 g6 q7 g7 q8 g8 q9 g9 q10 g10 q11 g11
  revert HW9
  generalize ((((((((((((V3.setCell ⟨Q, 0, none⟩ (.int .i64 kd)).setCell ⟨Q, 1, none⟩ (.int .i64 iv)).setCell ⟨Q, 2, none⟩ (.int .i64 (q.size : Int))).setCell ⟨Q, 3, none⟩ (.int .i64 0)).setCell ⟨Q, 4, none⟩ (.string q)).setCell ⟨Q, 5, none⟩ (.int .i64 0)).setCell ⟨Q, 6, none⟩ (.int .i64 0)).setCell ⟨Q, 7, none⟩ (.int .i64 0)).setCell ⟨Q, 8, none⟩ (.int .i64 0)).setCell ⟨Q, 9, none⟩ (.int .i64 0)).setCell ⟨Q, 10, none⟩ (.int .i64 0)).setCell ⟨Q, 11, none⟩ (.int .i64 0)) = W9
  intro HW9
  have r0 := HW9.out.1.cell (i := 0) rfl
  have r1 := HW9.out.1.cell (i := 1) rfl
  have r2 := HW9.out.1.cell (i := 2) rfl
  have r3 := HW9.out.1.cell (i := 3) rfl
  have r4 := HW9.out.1.cell (i := 4) rfl
  have r5 := HW9.out.1.cell (i := 5) rfl
  have r6 := HW9.out.1.cell (i := 6) rfl
  have r7 := HW9.out.1.cell (i := 7) rfl
  have r8 := HW9.out.1.cell (i := 8) rfl
  have r9 := HW9.out.1.cell (i := 9) rfl
  have r10 := HW9.out.1.cell (i := 10) rfl
  have r11 := HW9.out.1.cell (i := 11) rfl
  (try simp only [Exit.inBlock, Exit.then])
  exact bodyPost_ret (v := .agg #[.int .i64 kd, .int .i64 iv, .int .i64 (q.size : Int), .int .i64 0, .string q, .int .i64 0, .int .i64 0, .int .i64 0, .int .i64 0, .int .i64 0, .int .i64 0, .int .i64 0]) (by simp [results, Tryd.results17, go_sem, r0, r1, r2, r3, r4, r5, r6, r7, r8, r9, r10, r11]) rfl ⟨rfl, HW9.out.2⟩
end Go.Proofs.YtfhhkmjjifbfeaaDoor
