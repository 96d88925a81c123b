/- Several texts in one. -/
import Derived.Test.YtfhhkmjjifbfeaaGreatDoorBlk
import Derived.Test.YtfhhkmjjifbfeaaGreatDoorShelf
import Derived.Test.YtfhhkmjjifbfeaaGreatDoorTx3
import Derived.Lib.AtoiAll
import Derived.WalkKit
import Derived.ProofKit
import Derived.Handy
import Derived.WalkLawsBesides
import Derived.WalkSpells
import Derived.Lib.Hide
import Derived.Lib.SliceRun
import Derived.Deep.RegionLaw
import Derived.RegionTactic
import Derived.ChangeAlike
import Derived.WalkSmall
import Derived.Deep.QuietTactic
import Derived.BigQuiet
import Derived.OwnWalk
import Derived.Outline
import Derived.Deep.CutRange
import Derived.Deep.CutBlock
import Derived.LoopTactic
import Derived.Test.YtfhhkmjjifbfeaaGreatDoorEv1
import Derived.Test.YtfhhkmjjifbfeaaGreatDoorQt4
import Derived.Test.YtfhhkmjjifbfeaaGreatDoorLe5
import Derived.Test.YtfhhkmjjifbfeaaGreatDoorLo7
import Derived.Deep.RegionHeld3
import Derived.Test.YtfhhkmjjifbfeaaGreatDoorLo8
import Derived.Test.YtfhhkmjjifbfeaaGreatDoorTx1
/- Log: words of a line, numbers, ticks. -/
namespace Go.Proofs.YtfhhkmjjifbfeaaGreatDoor
open Go.ChangeShapes Go.WideShapes Go.ChangeAt Go.RowKit
set_option linter.unusedSimpArgs false
set_option linter.unusedVariables false

/-- What strconv and strings stand on. -/
def NI (w : World) : Prop := (∃ m, w.cell? ⟨3, 0, none⟩ = some (.int .i64 m)) ∧ (∃ T p, w.cell? ⟨4, 0, none⟩ = some (.iface T p)) ∧ (∃ T p, w.cell? ⟨5, 0, none⟩ = some (.iface T p))
theorem NI.below {w w' : World} (h : NI w) (k : Below w.heap.size w w') : NI w' := by
  obtain ⟨⟨m, h1⟩, ⟨T, p, h2⟩, ⟨T', p', h3⟩⟩ := h
  have l1 := World.block_lt_of_cell? _ _ h1
  have l2 := World.block_lt_of_cell? _ _ h2
  have l3 := World.block_lt_of_cell? _ _ h3
  dsimp only at l1 l2 l3
  exact ⟨⟨m, (k.cell l1).trans h1⟩, ⟨T, p, (k.cell l2).trans h2⟩, ⟨T', p', (k.cell l3).trans h3⟩⟩
/-- The number of a word; none is zero. -/
def Lo.num (l : List UInt8) : Int := match Lib.atoiAll l with | .ok v => v | _ => 0
theorem lo_atoi (s : ByteArray) (hs : s.size ≤ 1000000) (w : World) (hn : NI w) :
    Calls Tryz.prog 58 #[.string s] w fun e w' => ∃ v x, e = .returned (.tuple #[.int .i64 v, x]) ∧ ((x = .nilIface ∧ Lo.num s.data.toList = v) ∨ ((∃ T p, x = .iface T p) ∧ Lo.num s.data.toList = 0)) ∧ Below w.heap.size w w' := by
  obtain ⟨-, ⟨T, p, h2⟩, ⟨T', p', h3⟩⟩ := hn
  cases h : Lib.atoiAll s.data.toList with
  | ok v =>
    refine (Tryz.strconv_Atoi_ok s (by omega) v h w).mono ?_
    rintro e w' ⟨rfl, h1⟩
    refine ⟨v, _, rfl, Or.inl ⟨rfl, by unfold Lo.num; rw [h]⟩, ?_⟩
    rcases h1 with rfl | ⟨t, rfl⟩
    · exact Below.refl _ _
    · refine ⟨rfl, rfl, rfl, ?_, fun j hj => Lib.bytesWorld_at_old w _ t j hj⟩
      have := (Array.getElem?_eq_some_iff.1 (Lib.bytesWorld_at_new w 5 t)).1
      omega
  | «syntax» =>
    refine (Tryz.strconv_Atoi_syntax s (by omega) h _ w h2 (Or.inr ⟨_, _, rfl⟩)).mono ?_
    rintro e w' ⟨N, rfl, _, _, h1⟩
    exact ⟨_, _, rfl, Or.inr ⟨⟨_, _, rfl⟩, by unfold Lo.num; rw [h]⟩, h1⟩
  | range =>
    refine (Tryz.strconv_Atoi_range s (by omega) h _ w h3 (Or.inr ⟨_, _, rfl⟩)).mono ?_
    rintro e w' ⟨N, rfl, _, _, h1⟩
    exact ⟨_, _, rfl, Or.inr ⟨⟨_, _, rfl⟩, by unfold Lo.num; rw [h]⟩, h1⟩
/-- The word of that number; empty, if there is none. -/
def Lo.at (L : List ByteArray) (i : Nat) : ByteArray := L.getD i { data := #[] }
set_option maxRecDepth 20000 in
set_option maxHeartbeats 16000000 in
theorem lo_at (bk : Nat) (L : List ByteArray) (n : Nat) (hn : L.length = n) (hn2 : n ≤ 1000000) (iz : Int) (i : Nat) (hz : iz = (i : Int)) (X : ByteArray) (hX : Lo.at L i = X) (T : TypeId) (w : World) (hb : Blk w bk (L.map Value.string) T) :
    Calls Tryz.prog 59 #[.slice (some ⟨bk, 0, none⟩) n n, .int .i64 iz] w fun e w' => e = .returned (.string X) ∧ Below w.heap.size w w' := by
  subst hz
  unfold Lo.at at hX
  by_cases h : i < n
  · have hc : w.cell? ⟨bk, i, none⟩ = some (.string X) := hb.cell (by
      rw [List.getElem?_map, List.getElem?_eq_getElem (by omega : i < L.length)]
      rw [List.getD_eq_getElem?_getD, List.getElem?_eq_getElem (by omega : i < L.length)] at hX
      rw [← hX]; rfl)
    have i1 : ¬ (n : Int) ≤ (i : Int) := by omega
    have i2 : (i : Int) < (n : Int) := by omega
    have i3 : (0 : Int) ≤ (i : Int) := by omega
    clear hb hX
    go_enter Tryz.func59, Tryz.ntmps59
    go_wp2_with fail
    go_ret
    exact ⟨rfl, Below.refl _ _⟩
  · have i1 : (n : Int) ≤ (i : Int) := by omega
    have hx : X = { data := #[] } := by
      rw [← hX, List.getD_eq_getElem?_getD, List.getElem?_eq_none (by omega)]; rfl
    subst hx
    clear hb hX
    go_enter Tryz.func59, Tryz.ntmps59
    go_wp2_with fail
    go_ret
    exact ⟨rfl, Below.refl _ _⟩
set_option maxRecDepth 20000 in
set_option maxHeartbeats 16000000 in
theorem lo_number (bk : Nat) (L : List ByteArray) (n : Nat) (hn : L.length = n) (hn2 : n ≤ 1000000) (hl : ∀ s ∈ L, s.size ≤ 1000000) (iz : Int) (i : Nat) (hz : iz = (i : Int)) (v : Int) (hv : Lo.num (Lo.at L i).data.toList = v) (T : TypeId) (w : World) (hb : Blk w bk (L.map Value.string) T) (hni : NI w) :
    Calls Tryz.prog 44 #[.slice (some ⟨bk, 0, none⟩) n n, .int .i64 iz] w fun e w' => e = .returned (.int .i64 v) ∧ Below w.heap.size w w' := by
  obtain ⟨X, hX⟩ : ∃ X, Lo.at L i = X := ⟨_, rfl⟩
  rw [hX] at hv
  have hxs : X.size ≤ 1000000 := by
    rw [← hX]; unfold Lo.at
    rw [List.getD_eq_getElem?_getD]
    cases h : L[i]? with
    | none => decide
    | some y => exact hl y (List.mem_of_getElem? h)
  have HH := Lib.hid (And.intro hn (And.intro hz (And.intro hX (And.intro hb (And.intro hni (And.intro hxs hv))))))
  clear hn hz hX hb hni hxs hv hl
  go_enter Tryz.func44, Tryz.ntmps44
  go_upto_region 2 with (first
    | (go_at_call 59; (with_reducible refine (lo_at bk L n HH.out.1 hn2 iz i HH.out.2.1 X HH.out.2.2.1 T _ HH.out.2.2.2.1).mono ?_); rintro e1 V1 ⟨rfl, q3⟩; have HB := Lib.hid q3; clear q3)
    | (go_at_call 58; (with_reducible refine (lo_atoi X HH.out.2.2.2.2.2.1 _ (HH.out.2.2.2.2.1.below HB.out)).mono ?_); rintro e1 V2 ⟨v1, x1, rfl, q4, q3⟩; have HC := Lib.hid (HB.out.trans (q3.mono HB.out.size)); clear q3))
  rcases q4 with ⟨rfl, q4⟩ | ⟨⟨T1, p1, rfl⟩, q4⟩
  · have HV : Hid (v1 = v) := Lib.hid (by rw [← q4, ← HH.out.2.2.2.2.2.2])
    clear q4
    go_wp2_with fail
    go_ret
    exact ⟨by rw [HV.out]; rfl, HC.out⟩
  · have HV : Hid (0 = v) := Lib.hid (by rw [← q4, ← HH.out.2.2.2.2.2.2])
    clear q4
    go_wp2_with fail
    go_ret
    exact ⟨by rw [← HV.out]; rfl, HC.out⟩
set_option maxRecDepth 20000 in
set_option maxHeartbeats 16000000 in
theorem lo_ticks (s : ByteArray) (hs : s.size ≤ 1000000) (v : Int) (hv : (Tx.parse s.data.toList).1 = v) (w : World) :
    Calls Tryz.prog 43 #[.string s] w fun e w' => e = .returned (.int .i64 v) ∧ Below w.heap.size w w' := by
  obtain ⟨er, her⟩ : ∃ er, (Tx.parse s.data.toList).2 = er := ⟨_, rfl⟩
  have hp : Tx.parse s.data.toList = (v, er) := by rw [← hv, ← her]
  have HH := Lib.hid (And.intro hp (show s.size ≤ maxLen by unfold maxLen; omega))
  clear hp hv her
  go_enter Tryz.func43, Tryz.ntmps43
  go_wp2_with (go_at_call 57; (with_reducible refine (tx_parse s _ rfl HH.out.2 v er HH.out.1 _).mono ?_); rintro e1 V1 ⟨rfl, q3⟩; have HB := Lib.hid q3; clear q3)
  go_ret
  exact ⟨rfl, HB.out⟩
end Go.Proofs.YtfhhkmjjifbfeaaGreatDoor
/- Log: a line that has bytes. -/
namespace Go.Proofs.YtfhhkmjjifbfeaaGreatDoor
open Go.ChangeShapes Go.WideShapes Go.ChangeAt Go.RowKit
set_option linter.unusedSimpArgs false
set_option linter.unusedVariables false

/-- The event of a line that has bytes. -/
def Lo.readB (kd : Int) (l : List UInt8) : Ev := ⟨kd, Lo.num (Lib.cut l [32]).1, ((Qt.whole (Lib.cut l [32]).2.1).1.length : Int), 0, Le.t (Qt.whole (Lib.cut l [32]).2.1).1, 0, 0, 0, 0, 0, 0, 0⟩
theorem Lo.cut_le (l : List UInt8) : (Lib.cut l [32]).1.length ≤ l.length ∧ (Lib.cut l [32]).2.1.length ≤ l.length := by
  unfold Lib.cut
  split <;> simp [List.length_take, List.length_drop] <;> omega
/-- A result beside what is. -/
structure LQ (w W : World) (Q : Nat) : Prop where
  bq : Blk W Q [.int .i64 0, .int .i64 0, .int .i64 0, .int .i64 0, .string { data := #[] }, .int .i64 0, .int .i64 0, .int .i64 0, .int .i64 0, .int .i64 0, .int .i64 0, .int .i64 0] 26
  be : Below w.heap.size w W
  lt : w.heap.size ≤ Q
theorem LQ.below {w W W' : World} {Q : Nat} (h : LQ w W Q) (k : Below W.heap.size W W') : LQ w W' Q := ⟨h.bq.chg (l := []) (Chg.of_fresh k) (by simp), h.be.trans (k.mono h.be.size), h.lt⟩
theorem LQ.fill {w W : World} {Q : Nat} (h : LQ w W Q) (v0 v1 v2 v3 v4 v5 v6 v7 v8 v9 v10 v11 : Value) : Blk ((((((((((((W.setCell ⟨Q, 0, none⟩ (v0)).setCell ⟨Q, 1, none⟩ (v1)).setCell ⟨Q, 2, none⟩ (v2)).setCell ⟨Q, 3, none⟩ (v3)).setCell ⟨Q, 4, none⟩ (v4)).setCell ⟨Q, 5, none⟩ (v5)).setCell ⟨Q, 6, none⟩ (v6)).setCell ⟨Q, 7, none⟩ (v7)).setCell ⟨Q, 8, none⟩ (v8)).setCell ⟨Q, 9, none⟩ (v9)).setCell ⟨Q, 10, none⟩ (v10)).setCell ⟨Q, 11, none⟩ (v11)) Q [v0, v1, v2, v3, v4, v5, v6, v7, v8, v9, v10, v11] 26 ∧ Below w.heap.size w ((((((((((((W.setCell ⟨Q, 0, none⟩ (v0)).setCell ⟨Q, 1, none⟩ (v1)).setCell ⟨Q, 2, none⟩ (v2)).setCell ⟨Q, 3, none⟩ (v3)).setCell ⟨Q, 4, none⟩ (v4)).setCell ⟨Q, 5, none⟩ (v5)).setCell ⟨Q, 6, none⟩ (v6)).setCell ⟨Q, 7, none⟩ (v7)).setCell ⟨Q, 8, none⟩ (v8)).setCell ⟨Q, 9, none⟩ (v9)).setCell ⟨Q, 10, none⟩ (v10)).setCell ⟨Q, 11, none⟩ (v11)) := by
  have k : Chg [Q] W ((((((((((((W.setCell ⟨Q, 0, none⟩ (v0)).setCell ⟨Q, 1, none⟩ (v1)).setCell ⟨Q, 2, none⟩ (v2)).setCell ⟨Q, 3, none⟩ (v3)).setCell ⟨Q, 4, none⟩ (v4)).setCell ⟨Q, 5, none⟩ (v5)).setCell ⟨Q, 6, none⟩ (v6)).setCell ⟨Q, 7, none⟩ (v7)).setCell ⟨Q, 8, none⟩ (v8)).setCell ⟨Q, 9, none⟩ (v9)).setCell ⟨Q, 10, none⟩ (v10)).setCell ⟨Q, 11, none⟩ (v11)) := (((((((((((((Chg.refl [Q] W).set (Or.inl (List.mem_singleton.2 rfl)) 0 v0).set (Or.inl (List.mem_singleton.2 rfl)) 1 v1).set (Or.inl (List.mem_singleton.2 rfl)) 2 v2).set (Or.inl (List.mem_singleton.2 rfl)) 3 v3).set (Or.inl (List.mem_singleton.2 rfl)) 4 v4).set (Or.inl (List.mem_singleton.2 rfl)) 5 v5).set (Or.inl (List.mem_singleton.2 rfl)) 6 v6).set (Or.inl (List.mem_singleton.2 rfl)) 7 v7).set (Or.inl (List.mem_singleton.2 rfl)) 8 v8).set (Or.inl (List.mem_singleton.2 rfl)) 9 v9).set (Or.inl (List.mem_singleton.2 rfl)) 10 v10).set (Or.inl (List.mem_singleton.2 rfl)) 11 v11)
  exact ⟨((((((((((((h.bq.set 0 v0).set 1 v1).set 2 v2).set 3 v3).set 4 v4).set 5 v5).set 6 v6).set 7 v7).set 8 v8).set 9 v9).set 10 v10).set 11 v11), h.be.trans (k.below h.be.size (by intro y hy; simp at hy; rw [hy]; exact h.lt))⟩
theorem LQ.new (w : World) : LQ w (w.alloc (.cells #[.int .i64 0, .int .i64 0, .int .i64 0, .int .i64 0, .string { data := #[] }, .int .i64 0, .int .i64 0, .int .i64 0, .int .i64 0, .int .i64 0, .int .i64 0, .int .i64 0] 26)) w.heap.size := ⟨Blk.newA _ _ _, (Below.refl _ _).alloc (Nat.le_refl _) _, Nat.le_refl _⟩
set_option maxRecDepth 20000 in
set_option maxHeartbeats 16000000 in
theorem lo_readBytes (kd : Int) (s : ByteArray) (hs : s.size ≤ 4000) (iv : Int) (q : ByteArray) (hi : Lo.num (Lib.cut s.data.toList [32]).1 = iv) (hq : (Qt.whole (Lib.cut s.data.toList [32]).2.1).1 = q.data.toList) (w : World) (hni : NI w) :
    Calls Tryz.prog 45 #[.int .i64 kd, .string s] w fun e w' => e = .returned (.agg #[.int .i64 kd, .int .i64 iv, .int .i64 (q.size : Int), .int .i64 0, .string q, .int .i64 0, .int .i64 0, .int .i64 0, .int .i64 0, .int .i64 0, .int .i64 0, .int .i64 0]) ∧ Below w.heap.size w w' := by
  obtain ⟨c1, hc1⟩ : ∃ c, (Lib.cut s.data.toList [32]).1 = c := ⟨_, rfl⟩
  obtain ⟨c2, hc2⟩ : ∃ c, (Lib.cut s.data.toList [32]).2.1 = c := ⟨_, rfl⟩
  obtain ⟨er, her⟩ : ∃ er, (Qt.whole c2).2 = er := ⟨_, rfl⟩
  obtain ⟨c3, hc3⟩ : ∃ c, (Lib.cut s.data.toList [32]).2.2 = c := ⟨_, rfl⟩
  have g := Lo.cut_le s.data.toList
  rw [hc1, hc2] at g
  have hsz : s.data.toList.length = s.size := rfl
  rw [hc1] at hi
  rw [hc2] at hq
  obtain ⟨m, hm⟩ := hni.1
  have HC : Hid (∀ W : World, Below w.heap.size w W → Calls Tryz.prog 42 #[.string s, .string { data := #[32] }] W fun e w' => e = .returned (.tuple #[.string (Le.t c1), .string (Le.t c2), .bool c3]) ∧ Below W.heap.size W w') := Lib.hid (fun W k => by
    have l1 := World.block_lt_of_cell? _ _ hm
    refine (Tryz.strings_Cut s { data := #[32] } m W (by omega) ((k.cell l1).trans hm)).mono ?_
    rintro e w' ⟨rfl, n, rfl⟩
    refine ⟨?_, (by have h := Below.refl W.heap.size W; exact ⟨h.os, h.tape, h.output, h.size, h.block⟩)⟩
    have e1 : ({ data := #[32] } : ByteArray).data.toList = [32] := rfl
    rw [e1, hc1, hc2, hc3]; rfl)
  have HW : Hid (∀ W : World, Calls Tryz.prog 60 #[.string (Le.t c2)] W fun en w' => en = .returned (.tuple #[.string q, .int .i64 er]) ∧ Below W.heap.size W w') := Lib.hid (fun W => whole_any (Le.t c2) q er (by rw [Le.t_size]; omega) (by rw [Le.t_list, ← hq, ← her]) W)
  have HN : Hid (∀ (W : World) (bk : Nat), Below w.heap.size w W → Blk W bk [.string (Le.t c1)] 9 → Calls Tryz.prog 44 #[.slice (some ⟨bk, 0, none⟩) 1 1, .int .i64 0] W fun e w' => e = .returned (.int .i64 iv) ∧ Below W.heap.size W w') := Lib.hid (fun W bk k hb => lo_number bk [Le.t c1] 1 rfl (by omega) (by
    intro x hx
    rw [List.mem_singleton] at hx
    rw [hx, Le.t_size]; omega) 0 0 rfl iv (by
    have : Lo.at [Le.t c1] 0 = Le.t c1 := rfl
    rw [this, Le.t_list, hi]) _ W hb (hni.below k))
  clear hi hq hni hc1 hc2 hc3 her hm g hsz hs
  go_enter Tryz.func45, Tryz.ntmps45
  have HB : Hid (LQ w (w.alloc (.cells #[.int .i64 0, .int .i64 0, .int .i64 0, .int .i64 0, .string { data := #[] }, .int .i64 0, .int .i64 0, .int .i64 0, .int .i64 0, .int .i64 0, .int .i64 0, .int .i64 0] 26)) w.heap.size) := Lib.hid (LQ.new w)
  go_upto_region 1 with fail
  revert HB
  generalize (w.alloc (.cells #[.int .i64 0, .int .i64 0, .int .i64 0, .int .i64 0, .string { data := #[] }, .int .i64 0, .int .i64 0, .int .i64 0, .int .i64 0, .int .i64 0, .int .i64 0, .int .i64 0] 26)) = W0
  generalize w.heap.size = Q
  intro HB
  go_wp2_with (first
    | (go_at_call 42; (with_reducible refine (HC.out _ HB.out.be).mono ?_); rintro e1 V1 ⟨rfl, q3⟩; have HBn := Lib.hid (HB.out.below q3); clear HB; have HB := HBn; clear HBn q3)
    | (go_at_call 60; (with_reducible refine (HW.out _).mono ?_); rintro e1 V2 ⟨rfl, q3⟩; have HBn := Lib.hid (HB.out.below q3); clear HB; have HB := HBn; clear HBn q3)
    | (go_at_call 44; (with_reducible refine (HN.out _ _ (HB.out.be.alloc HB.out.be.size _) (Blk.newA _ _ _)).mono ?_); rintro e1 V3 ⟨rfl, q3⟩; have HBn := Lib.hid (HB.out.below (((Below.refl _ _).alloc (Nat.le_refl _) _).trans (q3.mono (by simp)))); clear HB; have HB := HBn; clear HBn q3; have q0 := HB.out.bq.cell (i := 0) rfl; have g0 := HB.out.bq.free 0; have q1 := HB.out.bq.cell (i := 1) rfl; have g1 := HB.out.bq.free 1; have q2 := HB.out.bq.cell (i := 2) rfl; have g2 := HB.out.bq.free 2; have q3 := HB.out.bq.cell (i := 3) rfl; have g3 := HB.out.bq.free 3; have q4 := HB.out.bq.cell (i := 4) rfl; have g4 := HB.out.bq.free 4; have q5 := HB.out.bq.cell (i := 5) rfl; have g5 := HB.out.bq.free 5; have q6 := HB.out.bq.cell (i := 6) rfl; have g6 := HB.out.bq.free 6; have q7 := HB.out.bq.cell (i := 7) rfl; have g7 := HB.out.bq.free 7; have q8 := HB.out.bq.cell (i := 8) rfl; have g8 := HB.out.bq.free 8; have q9 := HB.out.bq.cell (i := 9) rfl; have g9 := HB.out.bq.free 9; have q10 := HB.out.bq.cell (i := 10) rfl; have g10 := HB.out.bq.free 10; have q11 := HB.out.bq.cell (i := 11) rfl; have g11 := HB.out.bq.free 11))
  have HW9 : Hid (Blk ((((((((((((V3.setCell ⟨Q, 0, none⟩ (.int .i64 kd)).setCell ⟨Q, 1, none⟩ (.int .i64 iv)).setCell ⟨Q, 2, none⟩ (.int .i64 (q.size : Int))).setCell ⟨Q, 3, none⟩ (.int .i64 0)).setCell ⟨Q, 4, none⟩ (.string q)).setCell ⟨Q, 5, none⟩ (.int .i64 0)).setCell ⟨Q, 6, none⟩ (.int .i64 0)).setCell ⟨Q, 7, none⟩ (.int .i64 0)).setCell ⟨Q, 8, none⟩ (.int .i64 0)).setCell ⟨Q, 9, none⟩ (.int .i64 0)).setCell ⟨Q, 10, none⟩ (.int .i64 0)).setCell ⟨Q, 11, none⟩ (.int .i64 0)) Q [.int .i64 kd, .int .i64 iv, .int .i64 (q.size : Int), .int .i64 0, .string q, .int .i64 0, .int .i64 0, .int .i64 0, .int .i64 0, .int .i64 0, .int .i64 0, .int .i64 0] 26 ∧ Below w.heap.size w ((((((((((((V3.setCell ⟨Q, 0, none⟩ (.int .i64 kd)).setCell ⟨Q, 1, none⟩ (.int .i64 iv)).setCell ⟨Q, 2, none⟩ (.int .i64 (q.size : Int))).setCell ⟨Q, 3, none⟩ (.int .i64 0)).setCell ⟨Q, 4, none⟩ (.string q)).setCell ⟨Q, 5, none⟩ (.int .i64 0)).setCell ⟨Q, 6, none⟩ (.int .i64 0)).setCell ⟨Q, 7, none⟩ (.int .i64 0)).setCell ⟨Q, 8, none⟩ (.int .i64 0)).setCell ⟨Q, 9, none⟩ (.int .i64 0)).setCell ⟨Q, 10, none⟩ (.int .i64 0)).setCell ⟨Q, 11, none⟩ (.int .i64 0))) := Lib.hid (HB.out.fill _ _ _ _ _ _ _ _ _ _ _ _)
  clear q0 g0 q1 g1 q2 g2 q3 g3 q4 g4 q5 g5 q6 g6 q7 g7 q8 g8 q9 g9 q10 g10 q11 g11
  revert HW9
  generalize ((((((((((((V3.setCell ⟨Q, 0, none⟩ (.int .i64 kd)).setCell ⟨Q, 1, none⟩ (.int .i64 iv)).setCell ⟨Q, 2, none⟩ (.int .i64 (q.size : Int))).setCell ⟨Q, 3, none⟩ (.int .i64 0)).setCell ⟨Q, 4, none⟩ (.string q)).setCell ⟨Q, 5, none⟩ (.int .i64 0)).setCell ⟨Q, 6, none⟩ (.int .i64 0)).setCell ⟨Q, 7, none⟩ (.int .i64 0)).setCell ⟨Q, 8, none⟩ (.int .i64 0)).setCell ⟨Q, 9, none⟩ (.int .i64 0)).setCell ⟨Q, 10, none⟩ (.int .i64 0)).setCell ⟨Q, 11, none⟩ (.int .i64 0)) = W9
  intro HW9
  have r0 := HW9.out.1.cell (i := 0) rfl
  have r1 := HW9.out.1.cell (i := 1) rfl
  have r2 := HW9.out.1.cell (i := 2) rfl
  have r3 := HW9.out.1.cell (i := 3) rfl
  have r4 := HW9.out.1.cell (i := 4) rfl
  have r5 := HW9.out.1.cell (i := 5) rfl
  have r6 := HW9.out.1.cell (i := 6) rfl
  have r7 := HW9.out.1.cell (i := 7) rfl
  have r8 := HW9.out.1.cell (i := 8) rfl
  have r9 := HW9.out.1.cell (i := 9) rfl
  have r10 := HW9.out.1.cell (i := 10) rfl
  have r11 := HW9.out.1.cell (i := 11) rfl
  (try simp only [Exit.inBlock, Exit.then])
  exact bodyPost_ret (v := .agg #[.int .i64 kd, .int .i64 iv, .int .i64 (q.size : Int), .int .i64 0, .string q, .int .i64 0, .int .i64 0, .int .i64 0, .int .i64 0, .int .i64 0, .int .i64 0, .int .i64 0]) (by simp [results, Tryz.results45, go_sem, r0, r1, r2, r3, r4, r5, r6, r7, r8, r9, r10, r11]) rfl ⟨rfl, HW9.out.2⟩
end Go.Proofs.YtfhhkmjjifbfeaaGreatDoor
/- Log: the step of a line. -/
namespace Go.Proofs.YtfhhkmjjifbfeaaGreatDoor
open Go.ChangeShapes Go.WideShapes Go.ChangeAt Go.RowKit
set_option linter.unusedSimpArgs false
set_option linter.unusedVariables false

/-- The last of the first numbers whose word it is; none: zero. -/
noncomputable def Lo.lst (f : Int → ByteArray) (X : ByteArray) : Nat → Int
  | 0 => 0
  | k + 1 => open Classical in if f k = X then (k : Int) else Lo.lst f X k
/-- What readStep works on. -/
structure LTS (w W : World) (bk Q Y : Nat) (ls ys : List Value) (T : TypeId) : Prop where
  bl : Blk W bk ls T
  bq : Blk W Q [.int .i64 0, .int .i64 0, .int .i64 0, .int .i64 0, .int .i64 0, .int .i64 0] 24
  by_ : Blk W Y ys 24
  be : Below w.heap.size w W
  lt : bk < w.heap.size ∧ w.heap.size ≤ Q ∧ Q < Y
theorem LTS.below {w W W' : World} {bk Q Y : Nat} {ls ys : List Value} {T : TypeId} (h : LTS w W bk Q Y ls ys T) (k : Below W.heap.size W W') : LTS w W' bk Q Y ls ys T :=
  ⟨h.bl.chg (l := []) (Chg.of_fresh k) (by simp), h.bq.chg (l := []) (Chg.of_fresh k) (by simp), h.by_.chg (l := []) (Chg.of_fresh k) (by simp), h.be.trans (k.mono h.be.size), h.lt⟩
/-- The same, ahead of the step. -/
structure LU (w W : World) (bk Q : Nat) (ls : List Value) (T : TypeId) : Prop where
  bl : Blk W bk ls T
  bq : Blk W Q [.int .i64 0, .int .i64 0, .int .i64 0, .int .i64 0, .int .i64 0, .int .i64 0] 24
  ni : NI W
  wi : WI W
  si : SI W
  be : Below w.heap.size w W
  lt : bk < w.heap.size ∧ w.heap.size ≤ Q
theorem LU.below {w W W' : World} {bk Q : Nat} {ls : List Value} {T : TypeId} (h : LU w W bk Q ls T) (k : Below W.heap.size W W') : LU w W' bk Q ls T :=
  ⟨h.bl.chg (l := []) (Chg.of_fresh k) (by simp), h.bq.chg (l := []) (Chg.of_fresh k) (by simp), h.ni.below k, h.wi.below k, h.si.below k, h.be.trans (k.mono h.be.size), h.lt⟩
theorem LTS.fill {w W : World} {bk Q Y : Nat} {ls ys : List Value} {T : TypeId} (h : LTS w W bk Q Y ls ys T) (v0 v1 v2 v3 v4 v5 : Value) : Blk ((((((W.setCell ⟨Q, 0, none⟩ (v0)).setCell ⟨Q, 1, none⟩ (v1)).setCell ⟨Q, 2, none⟩ (v2)).setCell ⟨Q, 3, none⟩ (v3)).setCell ⟨Q, 4, none⟩ (v4)).setCell ⟨Q, 5, none⟩ (v5)) Q [v0, v1, v2, v3, v4, v5] 24 ∧ Below w.heap.size w ((((((W.setCell ⟨Q, 0, none⟩ (v0)).setCell ⟨Q, 1, none⟩ (v1)).setCell ⟨Q, 2, none⟩ (v2)).setCell ⟨Q, 3, none⟩ (v3)).setCell ⟨Q, 4, none⟩ (v4)).setCell ⟨Q, 5, none⟩ (v5)) := by
  have k : Chg [Q] W ((((((W.setCell ⟨Q, 0, none⟩ (v0)).setCell ⟨Q, 1, none⟩ (v1)).setCell ⟨Q, 2, none⟩ (v2)).setCell ⟨Q, 3, none⟩ (v3)).setCell ⟨Q, 4, none⟩ (v4)).setCell ⟨Q, 5, none⟩ (v5)) := (((((((Chg.refl [Q] W).set (Or.inl (List.mem_singleton.2 rfl)) 0 v0).set (Or.inl (List.mem_singleton.2 rfl)) 1 v1).set (Or.inl (List.mem_singleton.2 rfl)) 2 v2).set (Or.inl (List.mem_singleton.2 rfl)) 3 v3).set (Or.inl (List.mem_singleton.2 rfl)) 4 v4).set (Or.inl (List.mem_singleton.2 rfl)) 5 v5)
  exact ⟨((((((h.bq.set 0 v0).set 1 v1).set 2 v2).set 3 v3).set 4 v4).set 5 v5), h.be.trans (k.below h.be.size (by intro y hy; simp at hy; rw [hy]; exact h.lt.2.1))⟩
theorem LTS.set {w W : World} {bk Q Y : Nat} {ls ys : List Value} {T : TypeId} (h : LTS w W bk Q Y ls ys T) (c : Nat) (v : Value) : LTS w (W.setCell ⟨Y, c, none⟩ v) bk Q Y ls (ys.set c v) T := by
  have hy : w.heap.size ≤ Y := by have := h.lt; omega
  have hbe : Below w.heap.size w (W.setCell ⟨Y, c, none⟩ v) := h.be.trans (((Chg.refl [Y] W).set (Or.inl (List.mem_singleton.2 rfl)) c v).below h.be.size (by intro y hy2; simp at hy2; rw [hy2]; exact hy))
  exact ⟨h.bl.other (by have := h.lt; omega) _ _, h.bq.other (by have := h.lt; omega) _ _, h.by_.set c v, hbe, h.lt⟩
theorem WI.cell {w : World} (h : WI w) : ∀ k : Nat, k < 15 → w.cell? ⟨0, k, none⟩ = some (.string (Lo.word (k : Int))) := by
  obtain ⟨c0, c1, c2, c3, c4, c5, c6, c7, c8, c9, c10, c11, c12, c13, c14⟩ := h
  intro k hk
  match k, hk with
  | 0, _ => exact c0
  | 1, _ => exact c1
  | 2, _ => exact c2
  | 3, _ => exact c3
  | 4, _ => exact c4
  | 5, _ => exact c5
  | 6, _ => exact c6
  | 7, _ => exact c7
  | 8, _ => exact c8
  | 9, _ => exact c9
  | 10, _ => exact c10
  | 11, _ => exact c11
  | 12, _ => exact c12
  | 13, _ => exact c13
  | 14, _ => exact c14
theorem SI.cell {w : World} (h : SI w) : ∀ k : Nat, k < 6 → w.cell? ⟨1, k, none⟩ = some (.string (Le.word (k : Int))) := by
  obtain ⟨c0, c1, c2, c3, c4, c5⟩ := h
  intro k hk
  match k, hk with
  | 0, _ => exact c0
  | 1, _ => exact c1
  | 2, _ => exact c2
  | 3, _ => exact c3
  | 4, _ => exact c4
  | 5, _ => exact c5
set_option maxRecDepth 20000 in
set_option maxHeartbeats 16000000 in
theorem lo_readStep (bk : Nat) (L : List ByteArray) (n : Nat) (hn : L.length = n) (hn2 : n ≤ 1000000) (hl : ∀ s ∈ L, s.size ≤ 1000000) (v0 v1 v2 v3 v4 v5 : Int) (h0 : (Tx.parse (Lo.at L 1).data.toList).1 = v0) (h1 : Lo.num (Lo.at L 2).data.toList = v1) (h2 : Lo.lst Lo.word (Lo.at L 3) 15 = v2) (h3 : Lo.num (Lo.at L 4).data.toList = v3) (h4 : Lo.num (Lo.at L 5).data.toList = v4) (h5 : Lo.lst Le.word (Lo.at L 6) 6 = v5) (T : TypeId) (w : World) (hb : Blk w bk (L.map Value.string) T) (hni : NI w) (hwi : WI w) (hsi : SI w) :
    Calls Tryz.prog 46 #[.slice (some ⟨bk, 0, none⟩) n n] w fun e w' => e = .returned (.agg #[.int .i64 v0, .int .i64 v1, .int .i64 v2, .int .i64 v3, .int .i64 v4, .int .i64 v5]) ∧ Below w.heap.size w w' := by
  have hat : ∀ i, (Lo.at L i).size ≤ 1000000 := by
    intro i; unfold Lo.at
    rw [List.getD_eq_getElem?_getD]
    cases h : L[i]? with
    | none => decide
    | some y => exact hl y (List.mem_of_getElem? h)
  obtain ⟨X1, hX1⟩ : ∃ X, Lo.at L 1 = X := ⟨_, rfl⟩
  obtain ⟨X3, hX3⟩ : ∃ X, Lo.at L 3 = X := ⟨_, rfl⟩
  obtain ⟨X6, hX6⟩ : ∃ X, Lo.at L 6 = X := ⟨_, rfl⟩
  rw [hX1] at h0
  rw [hX3] at h2
  rw [hX6] at h5
  have hx1 : X1.size ≤ 1000000 := by rw [← hX1]; exact hat 1
  have HA := Lib.hid (And.intro hX1 (And.intro hX3 hX6))
  have HV := Lib.hid (And.intro h2 h5)
  have HU := Lib.hid (And.intro hn (And.intro hl (And.intro h1 (And.intro h3 (And.intro h4 (And.intro h0 hx1))))))
  obtain ⟨ls, hls⟩ : ∃ ls, L.map Value.string = ls := ⟨_, rfl⟩
  have HL := Lib.hid hls
  rw [hls] at hb
  have k0 : Below w.heap.size w (w.alloc (.cells #[.int .i64 0, .int .i64 0, .int .i64 0, .int .i64 0, .int .i64 0, .int .i64 0] 24)) := (Below.refl _ _).alloc (Nat.le_refl _) _
  have HB : Hid (LU w (w.alloc (.cells #[.int .i64 0, .int .i64 0, .int .i64 0, .int .i64 0, .int .i64 0, .int .i64 0] 24)) bk w.heap.size ls T) := Lib.hid ⟨hb.alloc _, Blk.newA _ _ _, hni.below k0, hwi.below k0, hsi.below k0, k0, hb.lt, Nat.le_refl _⟩
  have HI := Lib.hid (And.intro hni (And.intro hwi hsi))
  clear hat hX1 hX3 hX6 h0 h1 h2 h3 h4 h5 hx1 hb hni hwi hsi k0 hls hn hl
  go_enter Tryz.func46, Tryz.ntmps46
  go_upto_region 1 with fail
  revert HB
  generalize (w.alloc (.cells #[.int .i64 0, .int .i64 0, .int .i64 0, .int .i64 0, .int .i64 0, .int .i64 0] 24)) = W0
  generalize w.heap.size = Q
  intro HB
  go_upto_region 2 with (first
    | (go_at_call 59; (with_reducible refine (lo_at bk L n HU.out.1 hn2 1 1 rfl X1 HA.out.1 T _ (by rw [HL.out]; exact HB.out.bl)).mono ?_); rintro e1 V1 ⟨rfl, q3⟩; have HBn := Lib.hid (HB.out.below q3); clear HB; have HB := HBn; clear HBn q3)
    | (go_at_call 43; (with_reducible refine (lo_ticks X1 HU.out.2.2.2.2.2.2 v0 HU.out.2.2.2.2.2.1 _).mono ?_); rintro e1 V2 ⟨rfl, q3⟩; have HBn := Lib.hid (HB.out.below q3); clear HB; have HB := HBn; clear HBn q3)
    | (go_at_call 44; (with_reducible refine (lo_number bk L n HU.out.1 hn2 HU.out.2.1 2 2 rfl v1 HU.out.2.2.1 T _ (by rw [HL.out]; exact HB.out.bl) HB.out.ni).mono ?_); rintro e1 V3 ⟨rfl, q3⟩; have HBn := Lib.hid (HB.out.below q3); clear HB; have HB := HBn; clear HBn q3)
    | (go_at_call 44; (with_reducible refine (lo_number bk L n HU.out.1 hn2 HU.out.2.1 4 4 rfl v3 HU.out.2.2.2.1 T _ (by rw [HL.out]; exact HB.out.bl) HB.out.ni).mono ?_); rintro e1 V4 ⟨rfl, q3⟩; have HBn := Lib.hid (HB.out.below q3); clear HB; have HB := HBn; clear HBn q3)
    | (go_at_call 44; (with_reducible refine (lo_number bk L n HU.out.1 hn2 HU.out.2.1 5 5 rfl v4 HU.out.2.2.2.2.1 T _ (by rw [HL.out]; exact HB.out.bl) HB.out.ni).mono ?_); rintro e1 V5 ⟨rfl, q3⟩; have HBn := Lib.hid (HB.out.below q3); clear HB; have HB := HBn; clear HBn q3))
  have HC : Hid (LTS w (V5.alloc (.cells #[.int .i64 v0, .int .i64 v1, .int .i64 0, .int .i64 v3, .int .i64 v4, .int .i64 0] 24)) bk Q V5.heap.size ls [.int .i64 v0, .int .i64 v1, .int .i64 0, .int .i64 v3, .int .i64 v4, .int .i64 0] T) := Lib.hid (by
    have k9 : Below V5.heap.size V5 (V5.alloc (.cells #[.int .i64 v0, .int .i64 v1, .int .i64 0, .int .i64 v3, .int .i64 v4, .int .i64 0] 24)) := (Below.refl _ _).alloc (Nat.le_refl _) _
    have h := HB.out.below k9
    have hq := HB.out.bq.lt
    exact ⟨h.bl, h.bq, Blk.newA _ _ _, h.be, h.lt.1, h.lt.2, hq⟩)
  clear HB
  revert HC
  generalize (V5.alloc (.cells #[.int .i64 v0, .int .i64 v1, .int .i64 0, .int .i64 v3, .int .i64 v4, .int .i64 0] 24)) = W1
  generalize V5.heap.size = Y
  intro HC
  go_wp2_with fail
  go_loopw [16] (fun i wr => ∃ (k : Nat), i = .int .i64 k ∧ k ≤ 15 ∧ Hid (LTS w wr bk Q Y ls [.int .i64 v0, .int .i64 v1, .int .i64 (Lo.lst Lo.word X3 (k)), .int .i64 v3, .int .i64 v4, .int .i64 (0)] T)) (fun i _ => 15 - (intOf i).toNat)
  case atStart => exact ⟨0, rfl, by omega, HC⟩
  case round =>
    obtain ⟨k, rfl, hk, HK⟩ := hrel
    by_cases hk9 : k < 15
    · obtain ⟨F, hF⟩ : ∃ F, Lo.word (k : Int) = F := ⟨_, rfl⟩
      by_cases hfx : F = X3
      · rw [hfx] at hF
        clear hfx
        have i1 : (k : Int) < 15 := by omega
        have i2 : (0 : Int) ≤ (k : Int) := by omega
        have iw : IntKind.i64.wrap ((k : Int) + 1) = (k : Int) + 1 := IntWalk.i64_in _ (by omega)
        go_upto_region 5 with fail
        replace HK := Lib.hid (HK.out.below (Below.refl _ _).drew)
        have s0' := (HI.out.2.1.below HK.out.be).cell k hk9
        rw [hF] at s0'
        have HF := Lib.hid hF
        clear hF
        go_region_held3 (fun W => W.cell? ⟨0, k, none⟩ = some (.string X3)) (first | with_reducible exact sA | with_reducible exact s0' | go_keep) (first
          | (go_at_call 59; (with_reducible refine (lo_at bk L n HU.out.1 hn2 3 3 rfl X3 HA.out.2.1 T _ (by rw [HL.out]; exact HK.out.bl)).mono ?_); rintro e1 V6 ⟨rfl, q3⟩; have HKn := Lib.hid (HK.out.below q3); clear HK; have HK := HKn; clear HKn q3; have sA : V6.cell? ⟨0, k, none⟩ = some (.string X3) := ((HI.out.2.1.below HK.out.be).cell k hk9).trans (congrArg (fun z => some (Value.string z)) HF.out)))
        all_goals
          try clear sA
          try clear s0'
          have y9 := HK.out.by_.cell (i := 2) rfl
          have f9 := HK.out.by_.free 2
          have HN : Hid (LTS w (V6.setCell ⟨Y, 2, none⟩ (.int .i64 (k : Int))) bk Q Y ls [.int .i64 v0, .int .i64 v1, .int .i64 (Lo.lst Lo.word X3 (k + 1)), .int .i64 v3, .int .i64 v4, .int .i64 (0)] T) := Lib.hid (by
            have h := HK.out.set 2 (.int .i64 (k : Int))
            have e : Lo.lst Lo.word X3 (k + 1) = (k : Int) := by unfold Lo.lst; rw [if_pos HF.out]
            rw [e]; exact h)
          go_wp2_with fail
          go_roundw
          case rel => exact ⟨k + 1, by go_num, by omega, HN⟩
          case measure => simp [intOf]; omega
      · skip
        have i1 : (k : Int) < 15 := by omega
        have i2 : (0 : Int) ≤ (k : Int) := by omega
        have iw : IntKind.i64.wrap ((k : Int) + 1) = (k : Int) + 1 := IntWalk.i64_in _ (by omega)
        go_upto_region 5 with fail
        replace HK := Lib.hid (HK.out.below (Below.refl _ _).drew)
        have s0' := (HI.out.2.1.below HK.out.be).cell k hk9
        rw [hF] at s0'
        have HF := Lib.hid hF
        clear hF
        have b1 : (F.toList == X3.toList) = false := by
          rw [beq_eq_false_iff_ne]
          intro h
          rw [Lib.toList_data, Lib.toList_data] at h
          exact hfx (ByteArray.ext (Array.ext' h))
        go_region_held3 (fun W => W.cell? ⟨0, k, none⟩ = some (.string F)) (first | with_reducible exact sA | with_reducible exact s0' | go_keep) (first
          | (go_at_call 59; (with_reducible refine (lo_at bk L n HU.out.1 hn2 3 3 rfl X3 HA.out.2.1 T _ (by rw [HL.out]; exact HK.out.bl)).mono ?_); rintro e1 V6 ⟨rfl, q3⟩; have HKn := Lib.hid (HK.out.below q3); clear HK; have HK := HKn; clear HKn q3; have sA : V6.cell? ⟨0, k, none⟩ = some (.string F) := ((HI.out.2.1.below HK.out.be).cell k hk9).trans (congrArg (fun z => some (Value.string z)) HF.out)))
        all_goals
          try clear sA
          try clear s0'
          have HN : Hid (LTS w V6 bk Q Y ls [.int .i64 v0, .int .i64 v1, .int .i64 (Lo.lst Lo.word X3 (k + 1)), .int .i64 v3, .int .i64 v4, .int .i64 (0)] T) := Lib.hid (by
            have e : Lo.lst Lo.word X3 (k + 1) = Lo.lst Lo.word X3 k := by
              conv => lhs; unfold Lo.lst
              rw [if_neg (by rw [HF.out]; exact hfx)]
            rw [e]; exact HK.out)
          go_wp2_with fail
          go_roundw
          case rel => exact ⟨k + 1, by go_num, by omega, HN⟩
          case measure => simp [intOf]; omega
    · obtain rfl : k = 15 := by omega
      have i1 : ¬ (((15 : Nat) : Int) < 15) := by omega
      have HC2 : Hid (LTS w wr bk Q Y ls [.int .i64 v0, .int .i64 v1, .int .i64 v2, .int .i64 v3, .int .i64 v4, .int .i64 0] T) := Lib.hid (by rw [← HV.out.1]; exact HK.out)
      clear HC HK
      go_wp2_with fail
      go_loopw [28] (fun i wr => ∃ (k : Nat), i = .int .i64 k ∧ k ≤ 6 ∧ Hid (LTS w wr bk Q Y ls [.int .i64 v0, .int .i64 v1, .int .i64 (v2), .int .i64 v3, .int .i64 v4, .int .i64 (Lo.lst Le.word X6 (k))] T)) (fun i _ => 6 - (intOf i).toNat)
      case atStart => exact ⟨0, rfl, by omega, HC2⟩
      case round =>
        obtain ⟨k, rfl, hk, HK⟩ := hrel
        by_cases hk9 : k < 6
        · obtain ⟨F, hF⟩ : ∃ F, Le.word (k : Int) = F := ⟨_, rfl⟩
          by_cases hfx : F = X6
          · rw [hfx] at hF
            clear hfx
            have i1 : (k : Int) < 6 := by omega
            have i2 : (0 : Int) ≤ (k : Int) := by omega
            have iw : IntKind.i64.wrap ((k : Int) + 1) = (k : Int) + 1 := IntWalk.i64_in _ (by omega)
            go_upto_region 11 with fail
            replace HK := Lib.hid (HK.out.below (Below.refl _ _).drew)
            have s0' := (HI.out.2.2.below HK.out.be).cell k hk9
            rw [hF] at s0'
            have HF := Lib.hid hF
            clear hF
            go_region_held3 (fun W => W.cell? ⟨1, k, none⟩ = some (.string X6)) (first | with_reducible exact sA | with_reducible exact s0' | go_keep) (first
              | (go_at_call 59; (with_reducible refine (lo_at bk L n HU.out.1 hn2 6 6 rfl X6 HA.out.2.2 T _ (by rw [HL.out]; exact HK.out.bl)).mono ?_); rintro e1 V6 ⟨rfl, q3⟩; have HKn := Lib.hid (HK.out.below q3); clear HK; have HK := HKn; clear HKn q3; have sA : V6.cell? ⟨1, k, none⟩ = some (.string X6) := ((HI.out.2.2.below HK.out.be).cell k hk9).trans (congrArg (fun z => some (Value.string z)) HF.out)))
            all_goals
              try clear sA
              try clear s0'
              have y9 := HK.out.by_.cell (i := 5) rfl
              have f9 := HK.out.by_.free 5
              have HN : Hid (LTS w (V6.setCell ⟨Y, 5, none⟩ (.int .i64 (k : Int))) bk Q Y ls [.int .i64 v0, .int .i64 v1, .int .i64 (v2), .int .i64 v3, .int .i64 v4, .int .i64 (Lo.lst Le.word X6 (k + 1))] T) := Lib.hid (by
                have h := HK.out.set 5 (.int .i64 (k : Int))
                have e : Lo.lst Le.word X6 (k + 1) = (k : Int) := by unfold Lo.lst; rw [if_pos HF.out]
                rw [e]; exact h)
              go_wp2_with fail
              go_roundw
              case rel => exact ⟨k + 1, by go_num, by omega, HN⟩
              case measure => simp [intOf]; omega
          · skip
            have i1 : (k : Int) < 6 := by omega
            have i2 : (0 : Int) ≤ (k : Int) := by omega
            have iw : IntKind.i64.wrap ((k : Int) + 1) = (k : Int) + 1 := IntWalk.i64_in _ (by omega)
            go_upto_region 11 with fail
            replace HK := Lib.hid (HK.out.below (Below.refl _ _).drew)
            have s0' := (HI.out.2.2.below HK.out.be).cell k hk9
            rw [hF] at s0'
            have HF := Lib.hid hF
            clear hF
            have b1 : (F.toList == X6.toList) = false := by
              rw [beq_eq_false_iff_ne]
              intro h
              rw [Lib.toList_data, Lib.toList_data] at h
              exact hfx (ByteArray.ext (Array.ext' h))
            go_region_held3 (fun W => W.cell? ⟨1, k, none⟩ = some (.string F)) (first | with_reducible exact sA | with_reducible exact s0' | go_keep) (first
              | (go_at_call 59; (with_reducible refine (lo_at bk L n HU.out.1 hn2 6 6 rfl X6 HA.out.2.2 T _ (by rw [HL.out]; exact HK.out.bl)).mono ?_); rintro e1 V6 ⟨rfl, q3⟩; have HKn := Lib.hid (HK.out.below q3); clear HK; have HK := HKn; clear HKn q3; have sA : V6.cell? ⟨1, k, none⟩ = some (.string F) := ((HI.out.2.2.below HK.out.be).cell k hk9).trans (congrArg (fun z => some (Value.string z)) HF.out)))
            all_goals
              try clear sA
              try clear s0'
              have HN : Hid (LTS w V6 bk Q Y ls [.int .i64 v0, .int .i64 v1, .int .i64 (v2), .int .i64 v3, .int .i64 v4, .int .i64 (Lo.lst Le.word X6 (k + 1))] T) := Lib.hid (by
                have e : Lo.lst Le.word X6 (k + 1) = Lo.lst Le.word X6 k := by
                  conv => lhs; unfold Lo.lst
                  rw [if_neg (by rw [HF.out]; exact hfx)]
                rw [e]; exact HK.out)
              go_wp2_with fail
              go_roundw
              case rel => exact ⟨k + 1, by go_num, by omega, HN⟩
              case measure => simp [intOf]; omega
        · obtain rfl : k = 6 := by omega
          have i1 : ¬ (((6 : Nat) : Int) < 6) := by omega
          have HC3 : Hid (LTS w wr bk Q Y ls [.int .i64 v0, .int .i64 v1, .int .i64 v2, .int .i64 v3, .int .i64 v4, .int .i64 v5] T) := Lib.hid (by rw [← HV.out.2]; exact HK.out)
          have y0 := HC3.out.by_.cell (i := 0) rfl
          have q0 := HC3.out.bq.cell (i := 0) rfl
          have g0 := HC3.out.bq.free 0
          have y1 := HC3.out.by_.cell (i := 1) rfl
          have q1 := HC3.out.bq.cell (i := 1) rfl
          have g1 := HC3.out.bq.free 1
          have y2 := HC3.out.by_.cell (i := 2) rfl
          have q2 := HC3.out.bq.cell (i := 2) rfl
          have g2 := HC3.out.bq.free 2
          have y3 := HC3.out.by_.cell (i := 3) rfl
          have q3 := HC3.out.bq.cell (i := 3) rfl
          have g3 := HC3.out.bq.free 3
          have y4 := HC3.out.by_.cell (i := 4) rfl
          have q4 := HC3.out.bq.cell (i := 4) rfl
          have g4 := HC3.out.bq.free 4
          have y5 := HC3.out.by_.cell (i := 5) rfl
          have q5 := HC3.out.bq.cell (i := 5) rfl
          have g5 := HC3.out.bq.free 5
          have HW9 : Hid (Blk ((((((wr.setCell ⟨Q, 0, none⟩ (.int .i64 v0)).setCell ⟨Q, 1, none⟩ (.int .i64 v1)).setCell ⟨Q, 2, none⟩ (.int .i64 v2)).setCell ⟨Q, 3, none⟩ (.int .i64 v3)).setCell ⟨Q, 4, none⟩ (.int .i64 v4)).setCell ⟨Q, 5, none⟩ (.int .i64 v5)) Q [.int .i64 v0, .int .i64 v1, .int .i64 v2, .int .i64 v3, .int .i64 v4, .int .i64 v5] 24 ∧ Below w.heap.size w ((((((wr.setCell ⟨Q, 0, none⟩ (.int .i64 v0)).setCell ⟨Q, 1, none⟩ (.int .i64 v1)).setCell ⟨Q, 2, none⟩ (.int .i64 v2)).setCell ⟨Q, 3, none⟩ (.int .i64 v3)).setCell ⟨Q, 4, none⟩ (.int .i64 v4)).setCell ⟨Q, 5, none⟩ (.int .i64 v5))) := Lib.hid (HC3.out.fill _ _ _ _ _ _)
          go_wp2_with fail
          clear y0 q0 g0 y1 q1 g1 y2 q2 g2 y3 q3 g3 y4 q4 g4 y5 q5 g5
          revert HW9
          generalize ((((((wr.setCell ⟨Q, 0, none⟩ (.int .i64 v0)).setCell ⟨Q, 1, none⟩ (.int .i64 v1)).setCell ⟨Q, 2, none⟩ (.int .i64 v2)).setCell ⟨Q, 3, none⟩ (.int .i64 v3)).setCell ⟨Q, 4, none⟩ (.int .i64 v4)).setCell ⟨Q, 5, none⟩ (.int .i64 v5)) = W9
          intro HW9
          have r0 := HW9.out.1.cell (i := 0) rfl
          have r1 := HW9.out.1.cell (i := 1) rfl
          have r2 := HW9.out.1.cell (i := 2) rfl
          have r3 := HW9.out.1.cell (i := 3) rfl
          have r4 := HW9.out.1.cell (i := 4) rfl
          have r5 := HW9.out.1.cell (i := 5) rfl
          (try simp only [Exit.inBlock, Exit.then])
          exact bodyPost_ret (v := .agg #[.int .i64 v0, .int .i64 v1, .int .i64 v2, .int .i64 v3, .int .i64 v4, .int .i64 v5]) (by simp [results, Tryz.results46, go_sem, r0, r1, r2, r3, r4, r5]) rfl ⟨rfl, HW9.out.2⟩
end Go.Proofs.YtfhhkmjjifbfeaaGreatDoor
/- Log: what a line is read as (no program). -/
namespace Go.Proofs.YtfhhkmjjifbfeaaGreatDoor
open Go.ChangeShapes Go.WideShapes Go.ChangeAt Go.RowKit
set_option linter.unusedSimpArgs false
set_option linter.unusedVariables false

/-- A text cut at each byte c. -/
def Lo.sp (c : UInt8) : List UInt8 → List (List UInt8)
  | [] => [[]]
  | b :: r => if b = c then [] :: Lo.sp c r else match Lo.sp c r with
    | [] => [[b]]
    | a :: m => (b :: a) :: m
theorem Lo.sp_ne (c : UInt8) (t : List UInt8) : ∃ a m, Lo.sp c t = a :: m := by
  cases t with
  | nil => exact ⟨_, _, rfl⟩
  | cons b r =>
    rw [Lo.sp]
    by_cases h : b = c
    · rw [if_pos h]; exact ⟨_, _, rfl⟩
    · rw [if_neg h]
      cases Lo.sp c r <;> exact ⟨_, _, rfl⟩
theorem Lo.sp_none (c : UInt8) : ∀ (t : List UInt8), c ∉ t → Lo.sp c t = [t]
  | [], _ => rfl
  | b :: r, h => by
    rw [Lo.sp, if_neg (fun e => h (by rw [e]; exact List.mem_cons_self ..)), Lo.sp_none c r (fun e => h (List.mem_cons_of_mem _ e))]
theorem Lo.sp_app (c : UInt8) (t : List UInt8) : ∀ (a : List UInt8), c ∉ a → Lo.sp c (a ++ c :: t) = a :: Lo.sp c t
  | [], _ => by rw [List.nil_append, Lo.sp, if_pos rfl]
  | b :: r, h => by
    rw [List.cons_append, Lo.sp, if_neg (fun e => h (by rw [e]; exact List.mem_cons_self ..)), Lo.sp_app c t r (fun e => h (List.mem_cons_of_mem _ e))]
theorem Lo.join_two (x y : List UInt8) (L : List (List UInt8)) (c : UInt8) : Lib.join (x :: y :: L) [c] = x ++ c :: Lib.join (y :: L) [c] := by simp [Lib.join, List.intercalate]
theorem Lo.sp_join (c : UInt8) : ∀ (L : List (List UInt8)), L ≠ [] → (∀ l ∈ L, c ∉ l) → Lo.sp c (Lib.join L [c]) = L
  | [], h, _ => absurd rfl h
  | [x], _, h => by rw [Lib.join_one]; exact Lo.sp_none c x (h x (by simp))
  | x :: y :: L, _, h => by
    rw [Lo.join_two, Lo.sp_app c _ x (h x (by simp)), Lo.sp_join c (y :: L) (by simp) (fun l hl => h l (List.mem_cons_of_mem _ hl))]
theorem Lo.sp_hit (c : UInt8) : ∀ (t : List UInt8) (i : Nat), t[i]? = some c → (∀ k : Nat, k < i → t[k]? ≠ some c) → Lo.sp c t = t.take i :: Lo.sp c (t.drop (i + 1))
  | [], i, h, _ => by simp at h
  | b :: r, 0, h, _ => by
    rw [Lo.sp, if_pos (by simpa using h)]; rfl
  | b :: r, i + 1, h, h2 => by
    have h0 := h2 0 (by omega)
    rw [Lo.sp, if_neg (by intro e; exact h0 (by rw [e]; rfl)), Lo.sp_hit c r i (by simpa using h) (fun k hk => by have := h2 (k + 1) (by omega); simpa using this)]
    rfl
theorem Lo.sp_le (c : UInt8) : ∀ (t : List UInt8), (Lo.sp c t).length ≤ t.length + 1 ∧ ∀ x ∈ Lo.sp c t, x.length ≤ t.length
  | [] => ⟨by simp [Lo.sp], by simp [Lo.sp]⟩
  | b :: r => by
    obtain ⟨h1, h2⟩ := Lo.sp_le c r
    obtain ⟨a, m, ham⟩ := Lo.sp_ne c r
    rw [Lo.sp]
    by_cases h : b = c
    · rw [if_pos h]
      refine ⟨by simp only [List.length_cons]; omega, fun x hx => ?_⟩
      rcases List.mem_cons.1 hx with rfl | hx
      · simp
      · have := h2 x hx; simp only [List.length_cons]; omega
    · rw [if_neg h, ham]
      rw [ham] at h1 h2
      refine ⟨by simp only [List.length_cons] at h1 ⊢; omega, fun x hx => ?_⟩
      rcases List.mem_cons.1 hx with rfl | hx
      · have := h2 a (by simp); simp only [List.length_cons]; omega
      · have := h2 x (by simp [hx]); simp only [List.length_cons]; omega
theorem Lo.mem_none {c : UInt8} {t : List UInt8} (h : ∀ k : Nat, t[k]? ≠ some c) : c ∉ t := fun e => by
  obtain ⟨k, hk⟩ := List.mem_iff_getElem?.1 e
  exact h k hk
theorem Lo.split_sp (c : UInt8) (s : ByteArray) : ∀ n, s.size ≤ n → (Lib.splitB { data := #[c] } 0 (Lib.countB s { data := #[c] }) s).map (fun x => x.data.toList) = Lo.sp c s.data.toList := by
  intro n
  induction n generalizing s with
  | zero =>
    intro hn
    have h0 : s.data.toList = [] := by
      have : s.data.toList.length = s.size := by simp
      exact List.eq_nil_of_length_eq_zero (by omega)
    have hi : Lib.indexB s { data := #[c] } = -1 := by
      show Lib.index s.data.toList _ = -1
      rw [h0]; rfl
    rw [Lib.countB_miss s _ hi, Lib.splitB_zero, h0]
    show [s.data.toList] = _
    rw [h0]; rfl
  | succ n ih =>
    intro hn
    have hone : Lib.indexB s { data := #[c] } = Lib.indexByte s.data.toList c := by
      unfold Lib.indexB
      exact Lib.index_one _ _
    rcases Lib.indexB_cases s { data := #[c] } with h | ⟨i, h, hi⟩
    · rw [Lib.countB_miss s _ h, Lib.splitB_zero]
      rw [hone] at h
      rw [Lo.sp_none c _ (Lo.mem_none (fun k => Lib.indexByte_none h k))]
      rfl
    · have hh := h
      rw [hone] at hh
      obtain ⟨h1, h2⟩ := Lib.indexByte_some hh
      have hsz : ({ data := #[c] } : ByteArray).size = 1 := rfl
      rw [Lib.countB_hit s _ i (by rw [hsz]; omega) h, Nat.add_comm 1, Lib.splitB_hit _ _ _ _ i h, hsz]
      rw [hsz] at hi
      have ih1 := ih (s.extract (i + 1) s.size) (by rw [ByteArray.size_extract]; omega)
      have hd : (s.extract (i + 1) s.size).data.toList = s.data.toList.drop (i + 1) := Lib.extract_to_end s (i + 1)
      have ht : (s.extract 0 (i + 0)).data.toList = s.data.toList.take i := Lib.extract_from_zero s (i + 0)
      rw [hd] at ih1
      rw [Lo.sp_hit c _ i h1 h2, List.map_cons, ih1, ht]
/-- The texts of a cut text. -/
def Lo.spB (c : UInt8) (l : List UInt8) : List ByteArray := (Lo.sp c l).map Le.t
theorem Lo.split_spB (c : UInt8) (s : ByteArray) : Lib.splitB { data := #[c] } 0 (Lib.countB s { data := #[c] }) s = Lo.spB c s.data.toList := by
  have h := Lo.split_sp c s s.size (Nat.le_refl _)
  unfold Lo.spB
  rw [← h, List.map_map]
  conv => lhs; rw [← List.map_id (Lib.splitB _ _ _ _)]
  exact List.map_congr_left fun x _ => Le.t_of rfl
theorem Lo.index_none {c : UInt8} : ∀ {a : List UInt8}, c ∉ a → Lib.indexByte a c = -1
  | [], _ => rfl
  | b :: l, h => by
    have h1 : ¬ b = c := fun e => h (by rw [e]; exact List.mem_cons_self ..)
    rw [Lib.indexByte, if_neg (by simpa using h1), Lo.index_none (fun e => h (List.mem_cons_of_mem _ e))]
    rfl
theorem Lo.index_app {c : UInt8} (t : List UInt8) : ∀ {a : List UInt8}, c ∉ a → Lib.indexByte (a ++ c :: t) c = (a.length : Int)
  | [], _ => by rw [List.nil_append, Lib.indexByte, if_pos (by simp), List.length_nil]; rfl
  | b :: l, h => by
    have h1 : ¬ b = c := fun e => h (by rw [e]; exact List.mem_cons_self ..)
    rw [List.cons_append, Lib.indexByte, if_neg (by simpa using h1), Lo.index_app t (fun e => h (List.mem_cons_of_mem _ e)), if_neg (by simp)]
    simp
theorem Lo.cut_none {c : UInt8} {a : List UInt8} (h : c ∉ a) : Lib.cut a [c] = (a, [], false) := by
  unfold Lib.cut
  rw [Lib.index_one, Lo.index_none h, if_neg (by omega)]
theorem Lo.cut_app {c : UInt8} {a : List UInt8} (t : List UInt8) (h : c ∉ a) : Lib.cut (a ++ c :: t) [c] = (a, t, true) := by
  unfold Lib.cut
  rw [Lib.index_one, Lo.index_app t h, if_pos (by omega)]
  simp
theorem Lo.uint_go : ∀ (l : List UInt8) (acc : Nat), l.all Tx.dig = true → Tx.go acc l < 18446744073709551616 → Lib.parseUint10 acc l = .ok (Tx.go acc l)
  | [], acc, _, _ => by rw [Tx.go_nil]; rfl
  | b :: r, acc, h, hl => by
    rw [List.all_cons, Bool.and_eq_true] at h
    rw [Tx.go_cons] at hl
    have h1 := Tx.go_le (Tx.one acc b) r
    have e1 := Tx.one_eq acc b
    have hd := h.1
    unfold Tx.dig at hd
    rw [Bool.and_eq_true, decide_eq_true_eq, decide_eq_true_eq] at hd
    rw [Lib.parseUint10, if_pos hd, if_neg (by omega), if_neg (by omega), Tx.go_cons]
    have e2 : acc * 10 + (b.toNat - 48) = Tx.one acc b := by rw [e1]; omega
    rw [e2]
    exact Lo.uint_go r _ h.2 hl
theorem Lo.mag_dec (u : Nat) (h : u < 18446744073709551616) : Lib.parseMag (Lib.decDigits u) = .ok u := by
  unfold Lib.parseMag
  rw [if_neg (Tx.dec_pos u)]
  have hv : Tx.go 0 (Lib.decDigits u) = u := Tx.dec_val u
  rw [Lo.uint_go _ 0 (Tx.dec_dig u) (by rw [hv]; exact h), hv]
theorem Lo.num_itoa (n : Int) (h : Lo.i64 n) : Lo.num (Lib.itoa n) = n := by
  unfold Lo.i64 at h
  unfold Lo.num Lib.itoa
  by_cases h0 : n < 0
  · rw [if_pos h0, Lib.atoiAll_minus, Lo.mag_dec _ (by omega)]
    unfold Lib.signed
    dsimp only
    rw [if_neg (by omega)]
    dsimp only
    omega
  · rw [if_neg h0]
    have hm := Lo.mag_dec n.toNat (by omega)
    have hd := Tx.dec_dig n.toNat
    cases hl : Lib.decDigits n.toNat with
    | nil => exact absurd hl (Tx.dec_pos _)
    | cons b r =>
      rw [hl] at hm hd
      rw [List.all_cons, Bool.and_eq_true] at hd
      have hb := hd.1
      unfold Tx.dig at hb
      rw [Bool.and_eq_true, decide_eq_true_eq, decide_eq_true_eq] at hb
      rw [Lib.atoiAll_plain b r (by omega) (by omega), hm]
      unfold Lib.signless
      dsimp only
      rw [if_neg (by omega)]
      dsimp only
      omega
theorem Lo.no32_dec (u : Nat) : (32 : UInt8) ∉ Lib.decDigits u := fun e => by
  have h := List.all_eq_true.1 (Tx.dec_dig u) _ e
  revert h
  decide
theorem Lo.no32_itoa (n : Int) : (32 : UInt8) ∉ Lib.itoa n := by
  unfold Lib.itoa
  split
  · intro e
    rcases List.mem_cons.1 e with e | e
    · exact absurd e (by decide)
    · exact Lo.no32_dec _ e
  · exact Lo.no32_dec _
theorem Lo.no32_tt (t : Int) : (32 : UInt8) ∉ Lo.tt t := by
  unfold Lo.tt Tx.text
  split
  · decide
  · exact Lo.no32_dec _
theorem Lo.parse_tt (t : Int) (h0 : 0 ≤ t) (h : t ≤ 9223372036854775807) : (Tx.parse (Lo.tt t)).1 = t := by
  have h1 : Tk.own t = t := by unfold Tk.own; split <;> omega
  unfold Lo.tt
  rw [h1, Tx.parse_text _ (by omega)]
  dsimp only
  omega
theorem Lo.lst_hit (f : Int → ByteArray) (X : ByteArray) (n : Nat) (hn : f n = X) : ∀ k : Nat, n < k → (∀ j : Nat, n < j → j < k → f j ≠ X) → Lo.lst f X k = (n : Int)
  | 0, h, _ => by omega
  | k + 1, h, hj => by
    unfold Lo.lst
    by_cases hk : k = n
    · subst hk; rw [if_pos hn]
    · rw [if_neg (hj k (by omega) (by omega))]
      exact Lo.lst_hit f X n hn k (by omega) (fun j h1 h2 => hj j h1 (by omega))
theorem Lo.word_ne : ∀ i : Fin 15, ∀ j : Fin 15, i.val < j.val → Lo.word (j.val : Int) ≠ Lo.word (i.val : Int) := by decide +kernel
theorem Lo.word5_ne : ∀ i : Fin 6, ∀ j : Fin 6, i.val < j.val → Le.word (j.val : Int) ≠ Le.word (i.val : Int) := by decide +kernel
theorem Lo.no32_word : ∀ i : Fin 15, (32 : UInt8) ∉ (Lo.word (i.val : Int)).data.toList := by decide +kernel
theorem Lo.no32_word5 : ∀ i : Fin 6, (32 : UInt8) ∉ (Le.word (i.val : Int)).data.toList := by decide +kernel
theorem Lo.lst_word (s : Int) (h0 : 0 ≤ s) (h : s < 15) : Lo.lst Lo.word (Lo.word s) 15 = s := by
  obtain ⟨n, rfl⟩ : ∃ n : Nat, s = (n : Int) := ⟨s.toNat, by omega⟩
  exact Lo.lst_hit Lo.word _ n rfl 15 (by omega) (fun j h1 h2 => Lo.word_ne ⟨n, by omega⟩ ⟨j, h2⟩ h1)
theorem Lo.lst_word5 (s : Int) (h0 : 0 ≤ s) (h : s < 6) : Lo.lst Le.word (Le.word s) 6 = s := by
  obtain ⟨n, rfl⟩ : ∃ n : Nat, s = (n : Int) := ⟨s.toNat, by omega⟩
  exact Lo.lst_hit Le.word _ n rfl 6 (by omega) (fun j h1 h2 => Lo.word5_ne ⟨n, by omega⟩ ⟨j, h2⟩ h1)
/-- The event that a line is read as. -/
noncomputable def Lo.rd (w r : List UInt8) : Ev :=
  if w = [114, 111, 117, 110, 100] then ⟨1, 0, 0, (Tx.parse r).1, { data := #[] }, 0, 0, 0, 0, 0, 0, 0⟩ else
  if w = [100, 114, 97, 105, 110] then ⟨7, 0, 0, (Tx.parse r).1, { data := #[] }, 0, 0, 0, 0, 0, 0, 0⟩ else
  if w = [111, 112, 101, 110] then ⟨2, Lo.num (Lo.at (Lo.spB 32 r) 0).data.toList, Lo.num (Lo.at (Lo.spB 32 r) 1).data.toList, 0, { data := #[] }, 0, 0, 0, 0, 0, 0, 0⟩ else
  if w = [114, 101, 102, 117, 115, 101] then ⟨3, Lo.num (Lo.at (Lo.spB 32 r) 0).data.toList, Lo.num (Lo.at (Lo.spB 32 r) 1).data.toList, 0, { data := #[] }, Lo.num (Lo.at (Lo.spB 32 r) 2).data.toList, 0, 0, 0, 0, 0, 0⟩ else
  if w = [114, 101, 97, 100] then Lo.readB 4 r else
  if w = [119, 114, 105, 116, 101] then Lo.readB 6 r else
  if w = [101, 111, 102] then ⟨5, Lo.num (Lo.at (Lo.spB 32 r) 0).data.toList, 0, 0, { data := #[] }, 0, 0, 0, 0, 0, 0, 0⟩ else
  if w = [115, 116, 101, 112] then ⟨8, Lo.num (Lo.at (Lo.spB 32 r) 0).data.toList, 0, 0, { data := #[] }, 0, (Tx.parse (Lo.at (Lo.spB 32 r) 1).data.toList).1, Lo.num (Lo.at (Lo.spB 32 r) 2).data.toList, Lo.lst Lo.word (Lo.at (Lo.spB 32 r) 3) 15, Lo.num (Lo.at (Lo.spB 32 r) 4).data.toList, Lo.num (Lo.at (Lo.spB 32 r) 5).data.toList, Lo.lst Le.word (Lo.at (Lo.spB 32 r) 6) 6⟩ else
  if w = [115, 116, 111, 112] then ⟨9, 0, 0, 0, { data := #[] }, 0, 0, 0, 0, 0, 0, 0⟩ else ⟨0, 0, 0, 0, { data := #[] }, 0, 0, 0, 0, 0, 0, 0⟩
noncomputable def Lo.read (l : List UInt8) : Ev := Lo.rd (Lib.cut l [32]).1 (Lib.cut l [32]).2.1
end Go.Proofs.YtfhhkmjjifbfeaaGreatDoor
