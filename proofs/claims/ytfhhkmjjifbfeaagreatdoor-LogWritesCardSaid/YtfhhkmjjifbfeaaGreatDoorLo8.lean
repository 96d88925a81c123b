/- Log: the lines of the kinds. -/
import Derived.Test.YtfhhkmjjifbfeaaGreatDoorLo7
import Derived.Test.YtfhhkmjjifbfeaaGreatDoorQt3
import Derived.Deep.RegionHeld3
import Derived.WalkKit
import Derived.ProofKit
import Derived.Handy
import Derived.WalkLawsBesides
import Derived.WalkSpells
import Derived.Lib.Hide
import Derived.Lib.SliceRun
import Derived.Deep.RegionLaw
import Derived.RegionTactic
import Derived.ChangeAlike
import Derived.WalkSmall
import Derived.Deep.QuietTactic
import Derived.BigQuiet
import Derived.OwnWalk
import Derived.Outline
import Derived.Deep.CutRange
import Derived.Deep.CutBlock
import Derived.LoopTactic
namespace Go.Proofs.YtfhhkmjjifbfeaaGreatDoor
open Go.ChangeShapes Go.WideShapes Go.ChangeAt Go.RowKit
set_option linter.unusedSimpArgs false
set_option linter.unusedVariables false

theorem LOG.s12 {w W : World} {X : Nat} {k i n t : Int} {b : ByteArray} {e s0 s1 s2 s3 s4 s5 : Int} {T : TypeId} (h : LOG w W X [.int .i64 k, .int .i64 i, .int .i64 n, .int .i64 t, .string b, .int .i64 e, .int .i64 s0, .int .i64 s1, .int .i64 s2, .int .i64 s3, .int .i64 s4, .int .i64 s5] T) : W.cell? ⟨X, 0, none⟩ = some (.int .i64 k) ∧ W.cell? ⟨X, 1, none⟩ = some (.int .i64 i) ∧ W.cell? ⟨X, 2, none⟩ = some (.int .i64 n) ∧ W.cell? ⟨X, 3, none⟩ = some (.int .i64 t) ∧ W.cell? ⟨X, 4, none⟩ = some (.string b) ∧ W.cell? ⟨X, 5, none⟩ = some (.int .i64 e) ∧ W.cell? ⟨X, 6, none⟩ = some (.int .i64 s0) ∧ W.cell? ⟨X, 7, none⟩ = some (.int .i64 s1) ∧ W.cell? ⟨X, 8, none⟩ = some (.int .i64 s2) ∧ W.cell? ⟨X, 9, none⟩ = some (.int .i64 s3) ∧ W.cell? ⟨X, 10, none⟩ = some (.int .i64 s4) ∧ W.cell? ⟨X, 11, none⟩ = some (.int .i64 s5) := ⟨h.bx.cell (i := 0) rfl, h.bx.cell (i := 1) rfl, h.bx.cell (i := 2) rfl, h.bx.cell (i := 3) rfl, h.bx.cell (i := 4) rfl, h.bx.cell (i := 5) rfl, h.bx.cell (i := 6) rfl, h.bx.cell (i := 7) rfl, h.bx.cell (i := 8) rfl, h.bx.cell (i := 9) rfl, h.bx.cell (i := 10) rfl, h.bx.cell (i := 11) rfl⟩
/-- The words of an event's line. -/
def Lo.parts (x : Ev) : List (List UInt8) := match x with
  | ⟨k, i, n, t, b, e, s0, s1, s2, s3, s4, s5⟩ => if k = 1 then [[114, 111, 117, 110, 100], Lo.tt t] else if k = 7 then [[100, 114, 97, 105, 110], Lo.tt t] else if k = 2 then [[111, 112, 101, 110], Lib.itoa i, Lib.itoa n] else if k = 3 then [[114, 101, 102, 117, 115, 101], Lib.itoa i, Lib.itoa n, Lib.itoa e] else if k = 4 then [[114, 101, 97, 100], Lib.itoa i, Qt.quo b.data.toList] else if k = 6 then [[119, 114, 105, 116, 101], Lib.itoa i, Qt.quo b.data.toList] else if k = 5 then [[101, 111, 102], Lib.itoa i] else if k = 8 then [[115, 116, 101, 112], Lib.itoa i, Lo.stepL s0 s1 s2 s3 s4 s5] else [[115, 116, 111, 112]]
def Lo.line (x : Ev) : List UInt8 := Lib.join (Lo.parts x) [32]
theorem Lo.quo_len (b : ByteArray) (h : b.size ≤ 4000) : (Qt.quo b.data.toList).length ≤ 20000 := by
  have h1 := (Qt.flat_le b.data.toList).2
  have h2 := Qt.quo_len b.data.toList
  have h3 : b.data.toList.length = b.size := rfl
  omega
theorem Lo.stepL_len (s0 s1 s2 s3 s4 s5 : Int) (h0 : s0 ≤ 9223372036854775807) (h1 : Lo.i64 s1) (h3 : Lo.i64 s3) (h4 : Lo.i64 s4) : (Lo.stepL s0 s1 s2 s3 s4 s5).length ≤ 20000 := by
  unfold Lo.stepL
  have g2 : (Lo.word s2).data.toList.length ≤ 30 := Lo.word_le s2
  have g5 : (Le.word s5).data.toList.length ≤ 30 := Lo.word5_le s5
  have g0 := Lo.tt_len h0
  have g1 := Lo.itoa_len h1
  have g3 := Lo.itoa_len h3
  have g4 := Lo.itoa_len h4
  have e : ∀ (a0 a1 a2 a3 a4 a5 : List UInt8), (Lib.join [a0, a1, a2, a3, a4, a5] [32]).length = a0.length + a1.length + a2.length + a3.length + a4.length + a5.length + 5 := by
    intros; simp [Lib.join, List.intercalate, List.intersperse]; omega
  rw [e]; omega
set_option maxRecDepth 20000 in
set_option maxHeartbeats 16000000 in
theorem lo_print1 (i n t : Int) (b : ByteArray) (e s0 s1 s2 s3 s4 s5 : Int) (hg : Lo.good ⟨1, i, n, t, b, e, s0, s1, s2, s3, s4, s5⟩ = true) (hok : Ev.ok ⟨1, i, n, t, b, e, s0, s1, s2, s3, s4, s5⟩) (hb : b.size ≤ 4000) (hi : Lo.i64 i) (hn : Lo.i64 n) (he : Lo.i64 e) (ht : t ≤ 9223372036854775807) (h0 : s0 ≤ 9223372036854775807) (h1 : Lo.i64 s1) (h3 : Lo.i64 s3) (h4 : Lo.i64 s4) (R : ByteArray) (hR : Le.t (Lo.line ⟨1, i, n, t, b, e, s0, s1, s2, s3, s4, s5⟩) = R) (w : World) (htab : Lib.TabIs Tryz.prog w "internal/strconv.uint64pow10" .u64 Lib.pow10Tab) (hwi : WI w) (hsi : SI w) :
    Calls Tryz.prog 7 #[.agg #[.int .i64 1, .int .i64 i, .int .i64 n, .int .i64 t, .string b, .int .i64 e, .int .i64 s0, .int .i64 s1, .int .i64 s2, .int .i64 s3, .int .i64 s4, .int .i64 s5]] w fun e w' => e = .returned (.tuple #[.string R, .int .i64 0]) ∧ Below w.heap.size w w' := by
  obtain ⟨X, hX⟩ : ∃ X, w.heap.size = X := ⟨_, rfl⟩
  have k0 : Below w.heap.size w (w.alloc (.cells #[.int .i64 1, .int .i64 i, .int .i64 n, .int .i64 t, .string b, .int .i64 e, .int .i64 s0, .int .i64 s1, .int .i64 s2, .int .i64 s3, .int .i64 s4, .int .i64 s5] 26)) := (Below.refl _ _).alloc (Nat.le_refl _) _
  have HS : Hid (LOG w (w.alloc (.cells #[.int .i64 1, .int .i64 i, .int .i64 n, .int .i64 t, .string b, .int .i64 e, .int .i64 s0, .int .i64 s1, .int .i64 s2, .int .i64 s3, .int .i64 s4, .int .i64 s5] 26)) X [.int .i64 1, .int .i64 i, .int .i64 n, .int .i64 t, .string b, .int .i64 e, .int .i64 s0, .int .i64 s1, .int .i64 s2, .int .i64 s3, .int .i64 s4, .int .i64 s5] 26) := Lib.hid ⟨by rw [← hX]; exact Blk.newA _ _ _, tab_below k0 htab, hwi.below k0, hsi.below k0, k0, by simp⟩
  have HB := Lib.hid (And.intro hi (And.intro hn he))
  have HP := Lib.hid (And.intro h0 (And.intro h1 (And.intro h3 h4)))
  have HQ := Lib.hid hb
  have HG := Lib.hid (And.intro hg hok)
  obtain ⟨tf, htf⟩ : ∃ n : Nat, Tk.own t = (n : Int) := ⟨(Tk.own t).toNat, by have := Tk.own_nn t; omega⟩
  have HT : Hid (t ≤ 9223372036854775807 ∧ Tk.own t = (tf : Int) ∧ (Le.t (Lo.tt t)).data.toList = Tx.text tf) := Lib.hid ⟨ht, htf, by rw [Le.t_list]; unfold Lo.tt; rw [htf]; rfl⟩
  have HR : Hid (Le.t (Lib.join [[114, 111, 117, 110, 100], Lo.tt t] [32]) = R) := Lib.hid hR
  have HLL : Hid (∀ l ∈ [[114, 111, 117, 110, 100], Lo.tt t], l.length ≤ 20000) := Lib.hid (by
    have gi := Lo.itoa_len hi
    have gn := Lo.itoa_len hn
    have ge := Lo.itoa_len he
    have gt := Lo.tt_len ht
    have gq := Lo.quo_len b hb
    have gs := Lo.stepL_len s0 s1 s2 s3 s4 s5 h0 h1 h3 h4
    intro l hl
    simp only [List.mem_cons, List.not_mem_nil, or_false] at hl
    rcases hl with rfl | rfl <;> first | decide | omega)
  clear hg hok hb hi hn he ht h0 h1 h3 h4 hR htab hwi hsi k0 htf
  go_enter Tryz.func7, Tryz.ntmps7
  go_upto_region 1 with fail
  clear hX
  revert HS
  generalize (w.alloc (.cells #[.int .i64 1, .int .i64 i, .int .i64 n, .int .i64 t, .string b, .int .i64 e, .int .i64 s0, .int .i64 s1, .int .i64 s2, .int .i64 s3, .int .i64 s4, .int .i64 s5] 26)) = W1
  intro HS
  have d0 := HS.out.bx.cell (i := 0) rfl
  have d1 := HS.out.bx.cell (i := 1) rfl
  have d2 := HS.out.bx.cell (i := 2) rfl
  have d3 := HS.out.bx.cell (i := 3) rfl
  have d4 := HS.out.bx.cell (i := 4) rfl
  have d5 := HS.out.bx.cell (i := 5) rfl
  have d6 := HS.out.bx.cell (i := 6) rfl
  have d7 := HS.out.bx.cell (i := 7) rfl
  have d8 := HS.out.bx.cell (i := 8) rfl
  have d9 := HS.out.bx.cell (i := 9) rfl
  have d10 := HS.out.bx.cell (i := 10) rfl
  have d11 := HS.out.bx.cell (i := 11) rfl
  go_upto_region 3 with (go_at_call 8; (with_reducible refine (lo_good 1 i n t b e s0 s1 s2 s3 s4 s5 true HG.out.1 HG.out.2 _ HS.out.wi HS.out.si).mono ?_); rintro e1 V1 ⟨rfl, q3⟩; have HSn := Lib.hid (HS.out.below q3); clear HS; have HS := HSn; clear HSn q3)
  clear d0 d1 d2 d3 d4 d5 d6 d7 d8 d9 d10 d11
  replace HS := Lib.hid (HS.out.below (Below.refl _ _).drew)
  have s0' := HS.out.s12
  go_region_held3 (fun W => W.cell? ⟨X, 0, none⟩ = some (.int .i64 1) ∧ W.cell? ⟨X, 1, none⟩ = some (.int .i64 i) ∧ W.cell? ⟨X, 2, none⟩ = some (.int .i64 n) ∧ W.cell? ⟨X, 3, none⟩ = some (.int .i64 t) ∧ W.cell? ⟨X, 4, none⟩ = some (.string b) ∧ W.cell? ⟨X, 5, none⟩ = some (.int .i64 e) ∧ W.cell? ⟨X, 6, none⟩ = some (.int .i64 s0) ∧ W.cell? ⟨X, 7, none⟩ = some (.int .i64 s1) ∧ W.cell? ⟨X, 8, none⟩ = some (.int .i64 s2) ∧ W.cell? ⟨X, 9, none⟩ = some (.int .i64 s3) ∧ W.cell? ⟨X, 10, none⟩ = some (.int .i64 s4) ∧ W.cell? ⟨X, 11, none⟩ = some (.int .i64 s5)) (first | with_reducible exact sA | with_reducible exact s0' | go_keep) (first
    | (go_at_call 21; (with_reducible refine (lo_itoa _ (by first | exact HB.out.1 | exact HB.out.2.1) _ HS.out.tab).mono ?_); rintro e1 V1 ⟨rfl, q3⟩; have HSn := Lib.hid (HS.out.below q3); clear HS; have HS := HSn; clear HSn q3; have sA := HS.out.s12))
  all_goals
    try clear sA
    try clear s0'
    have d0 := HS.out.bx.cell (i := 0) rfl
    have d1 := HS.out.bx.cell (i := 1) rfl
    have d2 := HS.out.bx.cell (i := 2) rfl
    have d3 := HS.out.bx.cell (i := 3) rfl
    have d4 := HS.out.bx.cell (i := 4) rfl
    have d5 := HS.out.bx.cell (i := 5) rfl
    have d6 := HS.out.bx.cell (i := 6) rfl
    have d7 := HS.out.bx.cell (i := 7) rfl
    have d8 := HS.out.bx.cell (i := 8) rfl
    have d9 := HS.out.bx.cell (i := 9) rfl
    have d10 := HS.out.bx.cell (i := 10) rfl
    have d11 := HS.out.bx.cell (i := 11) rfl
    go_wp2_with (first
      | (go_at_call 23; (with_reducible refine (tx_text t HT.out.1 tf HT.out.2.1 (Le.t (Lo.tt t)) HT.out.2.2 _ HS.out.tab).mono ?_); rintro e1 V1 ⟨rfl, q3⟩; have HSn := Lib.hid (HS.out.below q3); clear HS; have HS := HSn; clear HSn q3)
      | (go_at_call 22; refine (lo_words _ [[114, 111, 117, 110, 100], Lo.tt t] 2 rfl (by omega) HLL.out R HR.out 9 _ (Blk.newA _ _ _)).mono ?_; rintro e1 V2 ⟨rfl, q3⟩; have HSn := Lib.hid ((HS.out.below ((Below.refl _ _).alloc (Nat.le_refl _) _)).below q3); clear HS; have HS := HSn; clear HSn q3))
    go_ret2
    exact ⟨rfl, HS.out.be⟩
set_option maxRecDepth 20000 in
set_option maxHeartbeats 16000000 in
theorem lo_print2 (i n t : Int) (b : ByteArray) (e s0 s1 s2 s3 s4 s5 : Int) (hg : Lo.good ⟨2, i, n, t, b, e, s0, s1, s2, s3, s4, s5⟩ = true) (hok : Ev.ok ⟨2, i, n, t, b, e, s0, s1, s2, s3, s4, s5⟩) (hb : b.size ≤ 4000) (hi : Lo.i64 i) (hn : Lo.i64 n) (he : Lo.i64 e) (ht : t ≤ 9223372036854775807) (h0 : s0 ≤ 9223372036854775807) (h1 : Lo.i64 s1) (h3 : Lo.i64 s3) (h4 : Lo.i64 s4) (R : ByteArray) (hR : Le.t (Lo.line ⟨2, i, n, t, b, e, s0, s1, s2, s3, s4, s5⟩) = R) (w : World) (htab : Lib.TabIs Tryz.prog w "internal/strconv.uint64pow10" .u64 Lib.pow10Tab) (hwi : WI w) (hsi : SI w) :
    Calls Tryz.prog 7 #[.agg #[.int .i64 2, .int .i64 i, .int .i64 n, .int .i64 t, .string b, .int .i64 e, .int .i64 s0, .int .i64 s1, .int .i64 s2, .int .i64 s3, .int .i64 s4, .int .i64 s5]] w fun e w' => e = .returned (.tuple #[.string R, .int .i64 0]) ∧ Below w.heap.size w w' := by
  obtain ⟨X, hX⟩ : ∃ X, w.heap.size = X := ⟨_, rfl⟩
  have k0 : Below w.heap.size w (w.alloc (.cells #[.int .i64 2, .int .i64 i, .int .i64 n, .int .i64 t, .string b, .int .i64 e, .int .i64 s0, .int .i64 s1, .int .i64 s2, .int .i64 s3, .int .i64 s4, .int .i64 s5] 26)) := (Below.refl _ _).alloc (Nat.le_refl _) _
  have HS : Hid (LOG w (w.alloc (.cells #[.int .i64 2, .int .i64 i, .int .i64 n, .int .i64 t, .string b, .int .i64 e, .int .i64 s0, .int .i64 s1, .int .i64 s2, .int .i64 s3, .int .i64 s4, .int .i64 s5] 26)) X [.int .i64 2, .int .i64 i, .int .i64 n, .int .i64 t, .string b, .int .i64 e, .int .i64 s0, .int .i64 s1, .int .i64 s2, .int .i64 s3, .int .i64 s4, .int .i64 s5] 26) := Lib.hid ⟨by rw [← hX]; exact Blk.newA _ _ _, tab_below k0 htab, hwi.below k0, hsi.below k0, k0, by simp⟩
  have HB := Lib.hid (And.intro hi (And.intro hn he))
  have HP := Lib.hid (And.intro h0 (And.intro h1 (And.intro h3 h4)))
  have HQ := Lib.hid hb
  have HG := Lib.hid (And.intro hg hok)
  obtain ⟨tf, htf⟩ : ∃ n : Nat, Tk.own t = (n : Int) := ⟨(Tk.own t).toNat, by have := Tk.own_nn t; omega⟩
  have HT : Hid (t ≤ 9223372036854775807 ∧ Tk.own t = (tf : Int) ∧ (Le.t (Lo.tt t)).data.toList = Tx.text tf) := Lib.hid ⟨ht, htf, by rw [Le.t_list]; unfold Lo.tt; rw [htf]; rfl⟩
  have HR : Hid (Le.t (Lib.join [[111, 112, 101, 110], Lib.itoa i, Lib.itoa n] [32]) = R) := Lib.hid hR
  have HLL : Hid (∀ l ∈ [[111, 112, 101, 110], Lib.itoa i, Lib.itoa n], l.length ≤ 20000) := Lib.hid (by
    have gi := Lo.itoa_len hi
    have gn := Lo.itoa_len hn
    have ge := Lo.itoa_len he
    have gt := Lo.tt_len ht
    have gq := Lo.quo_len b hb
    have gs := Lo.stepL_len s0 s1 s2 s3 s4 s5 h0 h1 h3 h4
    intro l hl
    simp only [List.mem_cons, List.not_mem_nil, or_false] at hl
    rcases hl with rfl | rfl | rfl <;> first | decide | omega)
  clear hg hok hb hi hn he ht h0 h1 h3 h4 hR htab hwi hsi k0 htf
  go_enter Tryz.func7, Tryz.ntmps7
  go_upto_region 1 with fail
  clear hX
  revert HS
  generalize (w.alloc (.cells #[.int .i64 2, .int .i64 i, .int .i64 n, .int .i64 t, .string b, .int .i64 e, .int .i64 s0, .int .i64 s1, .int .i64 s2, .int .i64 s3, .int .i64 s4, .int .i64 s5] 26)) = W1
  intro HS
  have d0 := HS.out.bx.cell (i := 0) rfl
  have d1 := HS.out.bx.cell (i := 1) rfl
  have d2 := HS.out.bx.cell (i := 2) rfl
  have d3 := HS.out.bx.cell (i := 3) rfl
  have d4 := HS.out.bx.cell (i := 4) rfl
  have d5 := HS.out.bx.cell (i := 5) rfl
  have d6 := HS.out.bx.cell (i := 6) rfl
  have d7 := HS.out.bx.cell (i := 7) rfl
  have d8 := HS.out.bx.cell (i := 8) rfl
  have d9 := HS.out.bx.cell (i := 9) rfl
  have d10 := HS.out.bx.cell (i := 10) rfl
  have d11 := HS.out.bx.cell (i := 11) rfl
  go_upto_region 3 with (go_at_call 8; (with_reducible refine (lo_good 2 i n t b e s0 s1 s2 s3 s4 s5 true HG.out.1 HG.out.2 _ HS.out.wi HS.out.si).mono ?_); rintro e1 V1 ⟨rfl, q3⟩; have HSn := Lib.hid (HS.out.below q3); clear HS; have HS := HSn; clear HSn q3)
  clear d0 d1 d2 d3 d4 d5 d6 d7 d8 d9 d10 d11
  replace HS := Lib.hid (HS.out.below (Below.refl _ _).drew)
  have s0' := HS.out.s12
  go_region_held3 (fun W => W.cell? ⟨X, 0, none⟩ = some (.int .i64 2) ∧ W.cell? ⟨X, 1, none⟩ = some (.int .i64 i) ∧ W.cell? ⟨X, 2, none⟩ = some (.int .i64 n) ∧ W.cell? ⟨X, 3, none⟩ = some (.int .i64 t) ∧ W.cell? ⟨X, 4, none⟩ = some (.string b) ∧ W.cell? ⟨X, 5, none⟩ = some (.int .i64 e) ∧ W.cell? ⟨X, 6, none⟩ = some (.int .i64 s0) ∧ W.cell? ⟨X, 7, none⟩ = some (.int .i64 s1) ∧ W.cell? ⟨X, 8, none⟩ = some (.int .i64 s2) ∧ W.cell? ⟨X, 9, none⟩ = some (.int .i64 s3) ∧ W.cell? ⟨X, 10, none⟩ = some (.int .i64 s4) ∧ W.cell? ⟨X, 11, none⟩ = some (.int .i64 s5)) (first | with_reducible exact sA | with_reducible exact s0' | go_keep) (first
    | (go_at_call 21; (with_reducible refine (lo_itoa _ (by first | exact HB.out.1 | exact HB.out.2.1) _ HS.out.tab).mono ?_); rintro e1 V1 ⟨rfl, q3⟩; have HSn := Lib.hid (HS.out.below q3); clear HS; have HS := HSn; clear HSn q3; have sA := HS.out.s12))
  all_goals
    try clear sA
    try clear s0'
    have d0 := HS.out.bx.cell (i := 0) rfl
    have d1 := HS.out.bx.cell (i := 1) rfl
    have d2 := HS.out.bx.cell (i := 2) rfl
    have d3 := HS.out.bx.cell (i := 3) rfl
    have d4 := HS.out.bx.cell (i := 4) rfl
    have d5 := HS.out.bx.cell (i := 5) rfl
    have d6 := HS.out.bx.cell (i := 6) rfl
    have d7 := HS.out.bx.cell (i := 7) rfl
    have d8 := HS.out.bx.cell (i := 8) rfl
    have d9 := HS.out.bx.cell (i := 9) rfl
    have d10 := HS.out.bx.cell (i := 10) rfl
    have d11 := HS.out.bx.cell (i := 11) rfl
    go_wp2_with (first
      | (go_at_call 22; refine (lo_words _ [[111, 112, 101, 110], Lib.itoa i, Lib.itoa n] 3 rfl (by omega) HLL.out R HR.out 9 _ (Blk.newA _ _ _)).mono ?_; rintro e1 V2 ⟨rfl, q3⟩; have HSn := Lib.hid ((HS.out.below ((Below.refl _ _).alloc (Nat.le_refl _) _)).below q3); clear HS; have HS := HSn; clear HSn q3))
    go_ret2
    exact ⟨rfl, HS.out.be⟩
set_option maxRecDepth 20000 in
set_option maxHeartbeats 16000000 in
theorem lo_print3 (i n t : Int) (b : ByteArray) (e s0 s1 s2 s3 s4 s5 : Int) (hg : Lo.good ⟨3, i, n, t, b, e, s0, s1, s2, s3, s4, s5⟩ = true) (hok : Ev.ok ⟨3, i, n, t, b, e, s0, s1, s2, s3, s4, s5⟩) (hb : b.size ≤ 4000) (hi : Lo.i64 i) (hn : Lo.i64 n) (he : Lo.i64 e) (ht : t ≤ 9223372036854775807) (h0 : s0 ≤ 9223372036854775807) (h1 : Lo.i64 s1) (h3 : Lo.i64 s3) (h4 : Lo.i64 s4) (R : ByteArray) (hR : Le.t (Lo.line ⟨3, i, n, t, b, e, s0, s1, s2, s3, s4, s5⟩) = R) (w : World) (htab : Lib.TabIs Tryz.prog w "internal/strconv.uint64pow10" .u64 Lib.pow10Tab) (hwi : WI w) (hsi : SI w) :
    Calls Tryz.prog 7 #[.agg #[.int .i64 3, .int .i64 i, .int .i64 n, .int .i64 t, .string b, .int .i64 e, .int .i64 s0, .int .i64 s1, .int .i64 s2, .int .i64 s3, .int .i64 s4, .int .i64 s5]] w fun e w' => e = .returned (.tuple #[.string R, .int .i64 0]) ∧ Below w.heap.size w w' := by
  obtain ⟨X, hX⟩ : ∃ X, w.heap.size = X := ⟨_, rfl⟩
  have k0 : Below w.heap.size w (w.alloc (.cells #[.int .i64 3, .int .i64 i, .int .i64 n, .int .i64 t, .string b, .int .i64 e, .int .i64 s0, .int .i64 s1, .int .i64 s2, .int .i64 s3, .int .i64 s4, .int .i64 s5] 26)) := (Below.refl _ _).alloc (Nat.le_refl _) _
  have HS : Hid (LOG w (w.alloc (.cells #[.int .i64 3, .int .i64 i, .int .i64 n, .int .i64 t, .string b, .int .i64 e, .int .i64 s0, .int .i64 s1, .int .i64 s2, .int .i64 s3, .int .i64 s4, .int .i64 s5] 26)) X [.int .i64 3, .int .i64 i, .int .i64 n, .int .i64 t, .string b, .int .i64 e, .int .i64 s0, .int .i64 s1, .int .i64 s2, .int .i64 s3, .int .i64 s4, .int .i64 s5] 26) := Lib.hid ⟨by rw [← hX]; exact Blk.newA _ _ _, tab_below k0 htab, hwi.below k0, hsi.below k0, k0, by simp⟩
  have HB := Lib.hid (And.intro hi (And.intro hn he))
  have HP := Lib.hid (And.intro h0 (And.intro h1 (And.intro h3 h4)))
  have HQ := Lib.hid hb
  have HG := Lib.hid (And.intro hg hok)
  obtain ⟨tf, htf⟩ : ∃ n : Nat, Tk.own t = (n : Int) := ⟨(Tk.own t).toNat, by have := Tk.own_nn t; omega⟩
  have HT : Hid (t ≤ 9223372036854775807 ∧ Tk.own t = (tf : Int) ∧ (Le.t (Lo.tt t)).data.toList = Tx.text tf) := Lib.hid ⟨ht, htf, by rw [Le.t_list]; unfold Lo.tt; rw [htf]; rfl⟩
  have HR : Hid (Le.t (Lib.join [[114, 101, 102, 117, 115, 101], Lib.itoa i, Lib.itoa n, Lib.itoa e] [32]) = R) := Lib.hid hR
  have HLL : Hid (∀ l ∈ [[114, 101, 102, 117, 115, 101], Lib.itoa i, Lib.itoa n, Lib.itoa e], l.length ≤ 20000) := Lib.hid (by
    have gi := Lo.itoa_len hi
    have gn := Lo.itoa_len hn
    have ge := Lo.itoa_len he
    have gt := Lo.tt_len ht
    have gq := Lo.quo_len b hb
    have gs := Lo.stepL_len s0 s1 s2 s3 s4 s5 h0 h1 h3 h4
    intro l hl
    simp only [List.mem_cons, List.not_mem_nil, or_false] at hl
    rcases hl with rfl | rfl | rfl | rfl <;> first | decide | omega)
  clear hg hok hb hi hn he ht h0 h1 h3 h4 hR htab hwi hsi k0 htf
  go_enter Tryz.func7, Tryz.ntmps7
  go_upto_region 1 with fail
  clear hX
  revert HS
  generalize (w.alloc (.cells #[.int .i64 3, .int .i64 i, .int .i64 n, .int .i64 t, .string b, .int .i64 e, .int .i64 s0, .int .i64 s1, .int .i64 s2, .int .i64 s3, .int .i64 s4, .int .i64 s5] 26)) = W1
  intro HS
  have d0 := HS.out.bx.cell (i := 0) rfl
  have d1 := HS.out.bx.cell (i := 1) rfl
  have d2 := HS.out.bx.cell (i := 2) rfl
  have d3 := HS.out.bx.cell (i := 3) rfl
  have d4 := HS.out.bx.cell (i := 4) rfl
  have d5 := HS.out.bx.cell (i := 5) rfl
  have d6 := HS.out.bx.cell (i := 6) rfl
  have d7 := HS.out.bx.cell (i := 7) rfl
  have d8 := HS.out.bx.cell (i := 8) rfl
  have d9 := HS.out.bx.cell (i := 9) rfl
  have d10 := HS.out.bx.cell (i := 10) rfl
  have d11 := HS.out.bx.cell (i := 11) rfl
  go_upto_region 3 with (go_at_call 8; (with_reducible refine (lo_good 3 i n t b e s0 s1 s2 s3 s4 s5 true HG.out.1 HG.out.2 _ HS.out.wi HS.out.si).mono ?_); rintro e1 V1 ⟨rfl, q3⟩; have HSn := Lib.hid (HS.out.below q3); clear HS; have HS := HSn; clear HSn q3)
  clear d0 d1 d2 d3 d4 d5 d6 d7 d8 d9 d10 d11
  replace HS := Lib.hid (HS.out.below (Below.refl _ _).drew)
  have s0' := HS.out.s12
  go_region_held3 (fun W => W.cell? ⟨X, 0, none⟩ = some (.int .i64 3) ∧ W.cell? ⟨X, 1, none⟩ = some (.int .i64 i) ∧ W.cell? ⟨X, 2, none⟩ = some (.int .i64 n) ∧ W.cell? ⟨X, 3, none⟩ = some (.int .i64 t) ∧ W.cell? ⟨X, 4, none⟩ = some (.string b) ∧ W.cell? ⟨X, 5, none⟩ = some (.int .i64 e) ∧ W.cell? ⟨X, 6, none⟩ = some (.int .i64 s0) ∧ W.cell? ⟨X, 7, none⟩ = some (.int .i64 s1) ∧ W.cell? ⟨X, 8, none⟩ = some (.int .i64 s2) ∧ W.cell? ⟨X, 9, none⟩ = some (.int .i64 s3) ∧ W.cell? ⟨X, 10, none⟩ = some (.int .i64 s4) ∧ W.cell? ⟨X, 11, none⟩ = some (.int .i64 s5)) (first | with_reducible exact sA | with_reducible exact s0' | go_keep) (first
    | (go_at_call 21; (with_reducible refine (lo_itoa _ (by first | exact HB.out.1 | exact HB.out.2.1) _ HS.out.tab).mono ?_); rintro e1 V1 ⟨rfl, q3⟩; have HSn := Lib.hid (HS.out.below q3); clear HS; have HS := HSn; clear HSn q3; have sA := HS.out.s12))
  all_goals
    try clear sA
    try clear s0'
    have d0 := HS.out.bx.cell (i := 0) rfl
    have d1 := HS.out.bx.cell (i := 1) rfl
    have d2 := HS.out.bx.cell (i := 2) rfl
    have d3 := HS.out.bx.cell (i := 3) rfl
    have d4 := HS.out.bx.cell (i := 4) rfl
    have d5 := HS.out.bx.cell (i := 5) rfl
    have d6 := HS.out.bx.cell (i := 6) rfl
    have d7 := HS.out.bx.cell (i := 7) rfl
    have d8 := HS.out.bx.cell (i := 8) rfl
    have d9 := HS.out.bx.cell (i := 9) rfl
    have d10 := HS.out.bx.cell (i := 10) rfl
    have d11 := HS.out.bx.cell (i := 11) rfl
    go_wp2_with (first
      | (go_at_call 21; (with_reducible refine (lo_itoa _ HB.out.2.2 _ HS.out.tab).mono ?_); rintro e1 V1 ⟨rfl, q3⟩; have HSn := Lib.hid (HS.out.below q3); clear HS; have HS := HSn; clear HSn q3)
      | (go_at_call 22; refine (lo_words _ [[114, 101, 102, 117, 115, 101], Lib.itoa i, Lib.itoa n, Lib.itoa e] 4 rfl (by omega) HLL.out R HR.out 9 _ (Blk.newA _ _ _)).mono ?_; rintro e1 V2 ⟨rfl, q3⟩; have HSn := Lib.hid ((HS.out.below ((Below.refl _ _).alloc (Nat.le_refl _) _)).below q3); clear HS; have HS := HSn; clear HSn q3))
    go_ret2
    exact ⟨rfl, HS.out.be⟩
set_option maxRecDepth 20000 in
set_option maxHeartbeats 16000000 in
theorem lo_print4 (i n t : Int) (b : ByteArray) (e s0 s1 s2 s3 s4 s5 : Int) (hg : Lo.good ⟨4, i, n, t, b, e, s0, s1, s2, s3, s4, s5⟩ = true) (hok : Ev.ok ⟨4, i, n, t, b, e, s0, s1, s2, s3, s4, s5⟩) (hb : b.size ≤ 4000) (hi : Lo.i64 i) (hn : Lo.i64 n) (he : Lo.i64 e) (ht : t ≤ 9223372036854775807) (h0 : s0 ≤ 9223372036854775807) (h1 : Lo.i64 s1) (h3 : Lo.i64 s3) (h4 : Lo.i64 s4) (R : ByteArray) (hR : Le.t (Lo.line ⟨4, i, n, t, b, e, s0, s1, s2, s3, s4, s5⟩) = R) (w : World) (htab : Lib.TabIs Tryz.prog w "internal/strconv.uint64pow10" .u64 Lib.pow10Tab) (hwi : WI w) (hsi : SI w) :
    Calls Tryz.prog 7 #[.agg #[.int .i64 4, .int .i64 i, .int .i64 n, .int .i64 t, .string b, .int .i64 e, .int .i64 s0, .int .i64 s1, .int .i64 s2, .int .i64 s3, .int .i64 s4, .int .i64 s5]] w fun e w' => e = .returned (.tuple #[.string R, .int .i64 0]) ∧ Below w.heap.size w w' := by
  obtain ⟨X, hX⟩ : ∃ X, w.heap.size = X := ⟨_, rfl⟩
  have k0 : Below w.heap.size w (w.alloc (.cells #[.int .i64 4, .int .i64 i, .int .i64 n, .int .i64 t, .string b, .int .i64 e, .int .i64 s0, .int .i64 s1, .int .i64 s2, .int .i64 s3, .int .i64 s4, .int .i64 s5] 26)) := (Below.refl _ _).alloc (Nat.le_refl _) _
  have HS : Hid (LOG w (w.alloc (.cells #[.int .i64 4, .int .i64 i, .int .i64 n, .int .i64 t, .string b, .int .i64 e, .int .i64 s0, .int .i64 s1, .int .i64 s2, .int .i64 s3, .int .i64 s4, .int .i64 s5] 26)) X [.int .i64 4, .int .i64 i, .int .i64 n, .int .i64 t, .string b, .int .i64 e, .int .i64 s0, .int .i64 s1, .int .i64 s2, .int .i64 s3, .int .i64 s4, .int .i64 s5] 26) := Lib.hid ⟨by rw [← hX]; exact Blk.newA _ _ _, tab_below k0 htab, hwi.below k0, hsi.below k0, k0, by simp⟩
  have HB := Lib.hid (And.intro hi (And.intro hn he))
  have HP := Lib.hid (And.intro h0 (And.intro h1 (And.intro h3 h4)))
  have HQ := Lib.hid hb
  have HG := Lib.hid (And.intro hg hok)
  obtain ⟨tf, htf⟩ : ∃ n : Nat, Tk.own t = (n : Int) := ⟨(Tk.own t).toNat, by have := Tk.own_nn t; omega⟩
  have HT : Hid (t ≤ 9223372036854775807 ∧ Tk.own t = (tf : Int) ∧ (Le.t (Lo.tt t)).data.toList = Tx.text tf) := Lib.hid ⟨ht, htf, by rw [Le.t_list]; unfold Lo.tt; rw [htf]; rfl⟩
  have HR : Hid (Le.t (Lib.join [[114, 101, 97, 100], Lib.itoa i, Qt.quo b.data.toList] [32]) = R) := Lib.hid hR
  have HLL : Hid (∀ l ∈ [[114, 101, 97, 100], Lib.itoa i, Qt.quo b.data.toList], l.length ≤ 20000) := Lib.hid (by
    have gi := Lo.itoa_len hi
    have gn := Lo.itoa_len hn
    have ge := Lo.itoa_len he
    have gt := Lo.tt_len ht
    have gq := Lo.quo_len b hb
    have gs := Lo.stepL_len s0 s1 s2 s3 s4 s5 h0 h1 h3 h4
    intro l hl
    simp only [List.mem_cons, List.not_mem_nil, or_false] at hl
    rcases hl with rfl | rfl | rfl <;> first | decide | omega)
  clear hg hok hb hi hn he ht h0 h1 h3 h4 hR htab hwi hsi k0 htf
  go_enter Tryz.func7, Tryz.ntmps7
  go_upto_region 1 with fail
  clear hX
  revert HS
  generalize (w.alloc (.cells #[.int .i64 4, .int .i64 i, .int .i64 n, .int .i64 t, .string b, .int .i64 e, .int .i64 s0, .int .i64 s1, .int .i64 s2, .int .i64 s3, .int .i64 s4, .int .i64 s5] 26)) = W1
  intro HS
  have d0 := HS.out.bx.cell (i := 0) rfl
  have d1 := HS.out.bx.cell (i := 1) rfl
  have d2 := HS.out.bx.cell (i := 2) rfl
  have d3 := HS.out.bx.cell (i := 3) rfl
  have d4 := HS.out.bx.cell (i := 4) rfl
  have d5 := HS.out.bx.cell (i := 5) rfl
  have d6 := HS.out.bx.cell (i := 6) rfl
  have d7 := HS.out.bx.cell (i := 7) rfl
  have d8 := HS.out.bx.cell (i := 8) rfl
  have d9 := HS.out.bx.cell (i := 9) rfl
  have d10 := HS.out.bx.cell (i := 10) rfl
  have d11 := HS.out.bx.cell (i := 11) rfl
  go_upto_region 3 with (go_at_call 8; (with_reducible refine (lo_good 4 i n t b e s0 s1 s2 s3 s4 s5 true HG.out.1 HG.out.2 _ HS.out.wi HS.out.si).mono ?_); rintro e1 V1 ⟨rfl, q3⟩; have HSn := Lib.hid (HS.out.below q3); clear HS; have HS := HSn; clear HSn q3)
  clear d0 d1 d2 d3 d4 d5 d6 d7 d8 d9 d10 d11
  replace HS := Lib.hid (HS.out.below (Below.refl _ _).drew)
  have s0' := HS.out.s12
  go_region_held3 (fun W => W.cell? ⟨X, 0, none⟩ = some (.int .i64 4) ∧ W.cell? ⟨X, 1, none⟩ = some (.int .i64 i) ∧ W.cell? ⟨X, 2, none⟩ = some (.int .i64 n) ∧ W.cell? ⟨X, 3, none⟩ = some (.int .i64 t) ∧ W.cell? ⟨X, 4, none⟩ = some (.string b) ∧ W.cell? ⟨X, 5, none⟩ = some (.int .i64 e) ∧ W.cell? ⟨X, 6, none⟩ = some (.int .i64 s0) ∧ W.cell? ⟨X, 7, none⟩ = some (.int .i64 s1) ∧ W.cell? ⟨X, 8, none⟩ = some (.int .i64 s2) ∧ W.cell? ⟨X, 9, none⟩ = some (.int .i64 s3) ∧ W.cell? ⟨X, 10, none⟩ = some (.int .i64 s4) ∧ W.cell? ⟨X, 11, none⟩ = some (.int .i64 s5)) (first | with_reducible exact sA | with_reducible exact s0' | go_keep) (first
    | (go_at_call 21; (with_reducible refine (lo_itoa _ (by first | exact HB.out.1 | exact HB.out.2.1) _ HS.out.tab).mono ?_); rintro e1 V1 ⟨rfl, q3⟩; have HSn := Lib.hid (HS.out.below q3); clear HS; have HS := HSn; clear HSn q3; have sA := HS.out.s12))
  all_goals
    try clear sA
    try clear s0'
    have d0 := HS.out.bx.cell (i := 0) rfl
    have d1 := HS.out.bx.cell (i := 1) rfl
    have d2 := HS.out.bx.cell (i := 2) rfl
    have d3 := HS.out.bx.cell (i := 3) rfl
    have d4 := HS.out.bx.cell (i := 4) rfl
    have d5 := HS.out.bx.cell (i := 5) rfl
    have d6 := HS.out.bx.cell (i := 6) rfl
    have d7 := HS.out.bx.cell (i := 7) rfl
    have d8 := HS.out.bx.cell (i := 8) rfl
    have d9 := HS.out.bx.cell (i := 9) rfl
    have d10 := HS.out.bx.cell (i := 10) rfl
    have d11 := HS.out.bx.cell (i := 11) rfl
    go_wp2_with (first
      | (go_at_call 24; (with_reducible refine (quote_any b (Le.t (Qt.quo b.data.toList)) HQ.out (Le.t_list _) _).mono ?_); rintro e1 V1 ⟨rfl, q3⟩; have HSn := Lib.hid (HS.out.below q3); clear HS; have HS := HSn; clear HSn q3)
      | (go_at_call 22; refine (lo_words _ [[114, 101, 97, 100], Lib.itoa i, Qt.quo b.data.toList] 3 rfl (by omega) HLL.out R HR.out 9 _ (Blk.newA _ _ _)).mono ?_; rintro e1 V2 ⟨rfl, q3⟩; have HSn := Lib.hid ((HS.out.below ((Below.refl _ _).alloc (Nat.le_refl _) _)).below q3); clear HS; have HS := HSn; clear HSn q3))
    go_ret2
    exact ⟨rfl, HS.out.be⟩
set_option maxRecDepth 20000 in
set_option maxHeartbeats 16000000 in
theorem lo_print5 (i n t : Int) (b : ByteArray) (e s0 s1 s2 s3 s4 s5 : Int) (hg : Lo.good ⟨5, i, n, t, b, e, s0, s1, s2, s3, s4, s5⟩ = true) (hok : Ev.ok ⟨5, i, n, t, b, e, s0, s1, s2, s3, s4, s5⟩) (hb : b.size ≤ 4000) (hi : Lo.i64 i) (hn : Lo.i64 n) (he : Lo.i64 e) (ht : t ≤ 9223372036854775807) (h0 : s0 ≤ 9223372036854775807) (h1 : Lo.i64 s1) (h3 : Lo.i64 s3) (h4 : Lo.i64 s4) (R : ByteArray) (hR : Le.t (Lo.line ⟨5, i, n, t, b, e, s0, s1, s2, s3, s4, s5⟩) = R) (w : World) (htab : Lib.TabIs Tryz.prog w "internal/strconv.uint64pow10" .u64 Lib.pow10Tab) (hwi : WI w) (hsi : SI w) :
    Calls Tryz.prog 7 #[.agg #[.int .i64 5, .int .i64 i, .int .i64 n, .int .i64 t, .string b, .int .i64 e, .int .i64 s0, .int .i64 s1, .int .i64 s2, .int .i64 s3, .int .i64 s4, .int .i64 s5]] w fun e w' => e = .returned (.tuple #[.string R, .int .i64 0]) ∧ Below w.heap.size w w' := by
  obtain ⟨X, hX⟩ : ∃ X, w.heap.size = X := ⟨_, rfl⟩
  have k0 : Below w.heap.size w (w.alloc (.cells #[.int .i64 5, .int .i64 i, .int .i64 n, .int .i64 t, .string b, .int .i64 e, .int .i64 s0, .int .i64 s1, .int .i64 s2, .int .i64 s3, .int .i64 s4, .int .i64 s5] 26)) := (Below.refl _ _).alloc (Nat.le_refl _) _
  have HS : Hid (LOG w (w.alloc (.cells #[.int .i64 5, .int .i64 i, .int .i64 n, .int .i64 t, .string b, .int .i64 e, .int .i64 s0, .int .i64 s1, .int .i64 s2, .int .i64 s3, .int .i64 s4, .int .i64 s5] 26)) X [.int .i64 5, .int .i64 i, .int .i64 n, .int .i64 t, .string b, .int .i64 e, .int .i64 s0, .int .i64 s1, .int .i64 s2, .int .i64 s3, .int .i64 s4, .int .i64 s5] 26) := Lib.hid ⟨by rw [← hX]; exact Blk.newA _ _ _, tab_below k0 htab, hwi.below k0, hsi.below k0, k0, by simp⟩
  have HB := Lib.hid (And.intro hi (And.intro hn he))
  have HP := Lib.hid (And.intro h0 (And.intro h1 (And.intro h3 h4)))
  have HQ := Lib.hid hb
  have HG := Lib.hid (And.intro hg hok)
  obtain ⟨tf, htf⟩ : ∃ n : Nat, Tk.own t = (n : Int) := ⟨(Tk.own t).toNat, by have := Tk.own_nn t; omega⟩
  have HT : Hid (t ≤ 9223372036854775807 ∧ Tk.own t = (tf : Int) ∧ (Le.t (Lo.tt t)).data.toList = Tx.text tf) := Lib.hid ⟨ht, htf, by rw [Le.t_list]; unfold Lo.tt; rw [htf]; rfl⟩
  have HR : Hid (Le.t (Lib.join [[101, 111, 102], Lib.itoa i] [32]) = R) := Lib.hid hR
  have HLL : Hid (∀ l ∈ [[101, 111, 102], Lib.itoa i], l.length ≤ 20000) := Lib.hid (by
    have gi := Lo.itoa_len hi
    have gn := Lo.itoa_len hn
    have ge := Lo.itoa_len he
    have gt := Lo.tt_len ht
    have gq := Lo.quo_len b hb
    have gs := Lo.stepL_len s0 s1 s2 s3 s4 s5 h0 h1 h3 h4
    intro l hl
    simp only [List.mem_cons, List.not_mem_nil, or_false] at hl
    rcases hl with rfl | rfl <;> first | decide | omega)
  clear hg hok hb hi hn he ht h0 h1 h3 h4 hR htab hwi hsi k0 htf
  go_enter Tryz.func7, Tryz.ntmps7
  go_upto_region 1 with fail
  clear hX
  revert HS
  generalize (w.alloc (.cells #[.int .i64 5, .int .i64 i, .int .i64 n, .int .i64 t, .string b, .int .i64 e, .int .i64 s0, .int .i64 s1, .int .i64 s2, .int .i64 s3, .int .i64 s4, .int .i64 s5] 26)) = W1
  intro HS
  have d0 := HS.out.bx.cell (i := 0) rfl
  have d1 := HS.out.bx.cell (i := 1) rfl
  have d2 := HS.out.bx.cell (i := 2) rfl
  have d3 := HS.out.bx.cell (i := 3) rfl
  have d4 := HS.out.bx.cell (i := 4) rfl
  have d5 := HS.out.bx.cell (i := 5) rfl
  have d6 := HS.out.bx.cell (i := 6) rfl
  have d7 := HS.out.bx.cell (i := 7) rfl
  have d8 := HS.out.bx.cell (i := 8) rfl
  have d9 := HS.out.bx.cell (i := 9) rfl
  have d10 := HS.out.bx.cell (i := 10) rfl
  have d11 := HS.out.bx.cell (i := 11) rfl
  go_upto_region 3 with (go_at_call 8; (with_reducible refine (lo_good 5 i n t b e s0 s1 s2 s3 s4 s5 true HG.out.1 HG.out.2 _ HS.out.wi HS.out.si).mono ?_); rintro e1 V1 ⟨rfl, q3⟩; have HSn := Lib.hid (HS.out.below q3); clear HS; have HS := HSn; clear HSn q3)
  clear d0 d1 d2 d3 d4 d5 d6 d7 d8 d9 d10 d11
  replace HS := Lib.hid (HS.out.below (Below.refl _ _).drew)
  have s0' := HS.out.s12
  go_region_held3 (fun W => W.cell? ⟨X, 0, none⟩ = some (.int .i64 5) ∧ W.cell? ⟨X, 1, none⟩ = some (.int .i64 i) ∧ W.cell? ⟨X, 2, none⟩ = some (.int .i64 n) ∧ W.cell? ⟨X, 3, none⟩ = some (.int .i64 t) ∧ W.cell? ⟨X, 4, none⟩ = some (.string b) ∧ W.cell? ⟨X, 5, none⟩ = some (.int .i64 e) ∧ W.cell? ⟨X, 6, none⟩ = some (.int .i64 s0) ∧ W.cell? ⟨X, 7, none⟩ = some (.int .i64 s1) ∧ W.cell? ⟨X, 8, none⟩ = some (.int .i64 s2) ∧ W.cell? ⟨X, 9, none⟩ = some (.int .i64 s3) ∧ W.cell? ⟨X, 10, none⟩ = some (.int .i64 s4) ∧ W.cell? ⟨X, 11, none⟩ = some (.int .i64 s5)) (first | with_reducible exact sA | with_reducible exact s0' | go_keep) (first
    | (go_at_call 21; (with_reducible refine (lo_itoa _ (by first | exact HB.out.1 | exact HB.out.2.1) _ HS.out.tab).mono ?_); rintro e1 V1 ⟨rfl, q3⟩; have HSn := Lib.hid (HS.out.below q3); clear HS; have HS := HSn; clear HSn q3; have sA := HS.out.s12))
  all_goals
    try clear sA
    try clear s0'
    have d0 := HS.out.bx.cell (i := 0) rfl
    have d1 := HS.out.bx.cell (i := 1) rfl
    have d2 := HS.out.bx.cell (i := 2) rfl
    have d3 := HS.out.bx.cell (i := 3) rfl
    have d4 := HS.out.bx.cell (i := 4) rfl
    have d5 := HS.out.bx.cell (i := 5) rfl
    have d6 := HS.out.bx.cell (i := 6) rfl
    have d7 := HS.out.bx.cell (i := 7) rfl
    have d8 := HS.out.bx.cell (i := 8) rfl
    have d9 := HS.out.bx.cell (i := 9) rfl
    have d10 := HS.out.bx.cell (i := 10) rfl
    have d11 := HS.out.bx.cell (i := 11) rfl
    go_wp2_with (first
      | (go_at_call 22; refine (lo_words _ [[101, 111, 102], Lib.itoa i] 2 rfl (by omega) HLL.out R HR.out 9 _ (Blk.newA _ _ _)).mono ?_; rintro e1 V2 ⟨rfl, q3⟩; have HSn := Lib.hid ((HS.out.below ((Below.refl _ _).alloc (Nat.le_refl _) _)).below q3); clear HS; have HS := HSn; clear HSn q3))
    go_ret2
    exact ⟨rfl, HS.out.be⟩
set_option maxRecDepth 20000 in
set_option maxHeartbeats 16000000 in
theorem lo_print6 (i n t : Int) (b : ByteArray) (e s0 s1 s2 s3 s4 s5 : Int) (hg : Lo.good ⟨6, i, n, t, b, e, s0, s1, s2, s3, s4, s5⟩ = true) (hok : Ev.ok ⟨6, i, n, t, b, e, s0, s1, s2, s3, s4, s5⟩) (hb : b.size ≤ 4000) (hi : Lo.i64 i) (hn : Lo.i64 n) (he : Lo.i64 e) (ht : t ≤ 9223372036854775807) (h0 : s0 ≤ 9223372036854775807) (h1 : Lo.i64 s1) (h3 : Lo.i64 s3) (h4 : Lo.i64 s4) (R : ByteArray) (hR : Le.t (Lo.line ⟨6, i, n, t, b, e, s0, s1, s2, s3, s4, s5⟩) = R) (w : World) (htab : Lib.TabIs Tryz.prog w "internal/strconv.uint64pow10" .u64 Lib.pow10Tab) (hwi : WI w) (hsi : SI w) :
    Calls Tryz.prog 7 #[.agg #[.int .i64 6, .int .i64 i, .int .i64 n, .int .i64 t, .string b, .int .i64 e, .int .i64 s0, .int .i64 s1, .int .i64 s2, .int .i64 s3, .int .i64 s4, .int .i64 s5]] w fun e w' => e = .returned (.tuple #[.string R, .int .i64 0]) ∧ Below w.heap.size w w' := by
  obtain ⟨X, hX⟩ : ∃ X, w.heap.size = X := ⟨_, rfl⟩
  have k0 : Below w.heap.size w (w.alloc (.cells #[.int .i64 6, .int .i64 i, .int .i64 n, .int .i64 t, .string b, .int .i64 e, .int .i64 s0, .int .i64 s1, .int .i64 s2, .int .i64 s3, .int .i64 s4, .int .i64 s5] 26)) := (Below.refl _ _).alloc (Nat.le_refl _) _
  have HS : Hid (LOG w (w.alloc (.cells #[.int .i64 6, .int .i64 i, .int .i64 n, .int .i64 t, .string b, .int .i64 e, .int .i64 s0, .int .i64 s1, .int .i64 s2, .int .i64 s3, .int .i64 s4, .int .i64 s5] 26)) X [.int .i64 6, .int .i64 i, .int .i64 n, .int .i64 t, .string b, .int .i64 e, .int .i64 s0, .int .i64 s1, .int .i64 s2, .int .i64 s3, .int .i64 s4, .int .i64 s5] 26) := Lib.hid ⟨by rw [← hX]; exact Blk.newA _ _ _, tab_below k0 htab, hwi.below k0, hsi.below k0, k0, by simp⟩
  have HB := Lib.hid (And.intro hi (And.intro hn he))
  have HP := Lib.hid (And.intro h0 (And.intro h1 (And.intro h3 h4)))
  have HQ := Lib.hid hb
  have HG := Lib.hid (And.intro hg hok)
  obtain ⟨tf, htf⟩ : ∃ n : Nat, Tk.own t = (n : Int) := ⟨(Tk.own t).toNat, by have := Tk.own_nn t; omega⟩
  have HT : Hid (t ≤ 9223372036854775807 ∧ Tk.own t = (tf : Int) ∧ (Le.t (Lo.tt t)).data.toList = Tx.text tf) := Lib.hid ⟨ht, htf, by rw [Le.t_list]; unfold Lo.tt; rw [htf]; rfl⟩
  have HR : Hid (Le.t (Lib.join [[119, 114, 105, 116, 101], Lib.itoa i, Qt.quo b.data.toList] [32]) = R) := Lib.hid hR
  have HLL : Hid (∀ l ∈ [[119, 114, 105, 116, 101], Lib.itoa i, Qt.quo b.data.toList], l.length ≤ 20000) := Lib.hid (by
    have gi := Lo.itoa_len hi
    have gn := Lo.itoa_len hn
    have ge := Lo.itoa_len he
    have gt := Lo.tt_len ht
    have gq := Lo.quo_len b hb
    have gs := Lo.stepL_len s0 s1 s2 s3 s4 s5 h0 h1 h3 h4
    intro l hl
    simp only [List.mem_cons, List.not_mem_nil, or_false] at hl
    rcases hl with rfl | rfl | rfl <;> first | decide | omega)
  clear hg hok hb hi hn he ht h0 h1 h3 h4 hR htab hwi hsi k0 htf
  go_enter Tryz.func7, Tryz.ntmps7
  go_upto_region 1 with fail
  clear hX
  revert HS
  generalize (w.alloc (.cells #[.int .i64 6, .int .i64 i, .int .i64 n, .int .i64 t, .string b, .int .i64 e, .int .i64 s0, .int .i64 s1, .int .i64 s2, .int .i64 s3, .int .i64 s4, .int .i64 s5] 26)) = W1
  intro HS
  have d0 := HS.out.bx.cell (i := 0) rfl
  have d1 := HS.out.bx.cell (i := 1) rfl
  have d2 := HS.out.bx.cell (i := 2) rfl
  have d3 := HS.out.bx.cell (i := 3) rfl
  have d4 := HS.out.bx.cell (i := 4) rfl
  have d5 := HS.out.bx.cell (i := 5) rfl
  have d6 := HS.out.bx.cell (i := 6) rfl
  have d7 := HS.out.bx.cell (i := 7) rfl
  have d8 := HS.out.bx.cell (i := 8) rfl
  have d9 := HS.out.bx.cell (i := 9) rfl
  have d10 := HS.out.bx.cell (i := 10) rfl
  have d11 := HS.out.bx.cell (i := 11) rfl
  go_upto_region 3 with (go_at_call 8; (with_reducible refine (lo_good 6 i n t b e s0 s1 s2 s3 s4 s5 true HG.out.1 HG.out.2 _ HS.out.wi HS.out.si).mono ?_); rintro e1 V1 ⟨rfl, q3⟩; have HSn := Lib.hid (HS.out.below q3); clear HS; have HS := HSn; clear HSn q3)
  clear d0 d1 d2 d3 d4 d5 d6 d7 d8 d9 d10 d11
  replace HS := Lib.hid (HS.out.below (Below.refl _ _).drew)
  have s0' := HS.out.s12
  go_region_held3 (fun W => W.cell? ⟨X, 0, none⟩ = some (.int .i64 6) ∧ W.cell? ⟨X, 1, none⟩ = some (.int .i64 i) ∧ W.cell? ⟨X, 2, none⟩ = some (.int .i64 n) ∧ W.cell? ⟨X, 3, none⟩ = some (.int .i64 t) ∧ W.cell? ⟨X, 4, none⟩ = some (.string b) ∧ W.cell? ⟨X, 5, none⟩ = some (.int .i64 e) ∧ W.cell? ⟨X, 6, none⟩ = some (.int .i64 s0) ∧ W.cell? ⟨X, 7, none⟩ = some (.int .i64 s1) ∧ W.cell? ⟨X, 8, none⟩ = some (.int .i64 s2) ∧ W.cell? ⟨X, 9, none⟩ = some (.int .i64 s3) ∧ W.cell? ⟨X, 10, none⟩ = some (.int .i64 s4) ∧ W.cell? ⟨X, 11, none⟩ = some (.int .i64 s5)) (first | with_reducible exact sA | with_reducible exact s0' | go_keep) (first
    | (go_at_call 21; (with_reducible refine (lo_itoa _ (by first | exact HB.out.1 | exact HB.out.2.1) _ HS.out.tab).mono ?_); rintro e1 V1 ⟨rfl, q3⟩; have HSn := Lib.hid (HS.out.below q3); clear HS; have HS := HSn; clear HSn q3; have sA := HS.out.s12))
  all_goals
    try clear sA
    try clear s0'
    have d0 := HS.out.bx.cell (i := 0) rfl
    have d1 := HS.out.bx.cell (i := 1) rfl
    have d2 := HS.out.bx.cell (i := 2) rfl
    have d3 := HS.out.bx.cell (i := 3) rfl
    have d4 := HS.out.bx.cell (i := 4) rfl
    have d5 := HS.out.bx.cell (i := 5) rfl
    have d6 := HS.out.bx.cell (i := 6) rfl
    have d7 := HS.out.bx.cell (i := 7) rfl
    have d8 := HS.out.bx.cell (i := 8) rfl
    have d9 := HS.out.bx.cell (i := 9) rfl
    have d10 := HS.out.bx.cell (i := 10) rfl
    have d11 := HS.out.bx.cell (i := 11) rfl
    go_wp2_with (first
      | (go_at_call 24; (with_reducible refine (quote_any b (Le.t (Qt.quo b.data.toList)) HQ.out (Le.t_list _) _).mono ?_); rintro e1 V1 ⟨rfl, q3⟩; have HSn := Lib.hid (HS.out.below q3); clear HS; have HS := HSn; clear HSn q3)
      | (go_at_call 22; refine (lo_words _ [[119, 114, 105, 116, 101], Lib.itoa i, Qt.quo b.data.toList] 3 rfl (by omega) HLL.out R HR.out 9 _ (Blk.newA _ _ _)).mono ?_; rintro e1 V2 ⟨rfl, q3⟩; have HSn := Lib.hid ((HS.out.below ((Below.refl _ _).alloc (Nat.le_refl _) _)).below q3); clear HS; have HS := HSn; clear HSn q3))
    go_ret2
    exact ⟨rfl, HS.out.be⟩
set_option maxRecDepth 20000 in
set_option maxHeartbeats 16000000 in
theorem lo_print7 (i n t : Int) (b : ByteArray) (e s0 s1 s2 s3 s4 s5 : Int) (hg : Lo.good ⟨7, i, n, t, b, e, s0, s1, s2, s3, s4, s5⟩ = true) (hok : Ev.ok ⟨7, i, n, t, b, e, s0, s1, s2, s3, s4, s5⟩) (hb : b.size ≤ 4000) (hi : Lo.i64 i) (hn : Lo.i64 n) (he : Lo.i64 e) (ht : t ≤ 9223372036854775807) (h0 : s0 ≤ 9223372036854775807) (h1 : Lo.i64 s1) (h3 : Lo.i64 s3) (h4 : Lo.i64 s4) (R : ByteArray) (hR : Le.t (Lo.line ⟨7, i, n, t, b, e, s0, s1, s2, s3, s4, s5⟩) = R) (w : World) (htab : Lib.TabIs Tryz.prog w "internal/strconv.uint64pow10" .u64 Lib.pow10Tab) (hwi : WI w) (hsi : SI w) :
    Calls Tryz.prog 7 #[.agg #[.int .i64 7, .int .i64 i, .int .i64 n, .int .i64 t, .string b, .int .i64 e, .int .i64 s0, .int .i64 s1, .int .i64 s2, .int .i64 s3, .int .i64 s4, .int .i64 s5]] w fun e w' => e = .returned (.tuple #[.string R, .int .i64 0]) ∧ Below w.heap.size w w' := by
  obtain ⟨X, hX⟩ : ∃ X, w.heap.size = X := ⟨_, rfl⟩
  have k0 : Below w.heap.size w (w.alloc (.cells #[.int .i64 7, .int .i64 i, .int .i64 n, .int .i64 t, .string b, .int .i64 e, .int .i64 s0, .int .i64 s1, .int .i64 s2, .int .i64 s3, .int .i64 s4, .int .i64 s5] 26)) := (Below.refl _ _).alloc (Nat.le_refl _) _
  have HS : Hid (LOG w (w.alloc (.cells #[.int .i64 7, .int .i64 i, .int .i64 n, .int .i64 t, .string b, .int .i64 e, .int .i64 s0, .int .i64 s1, .int .i64 s2, .int .i64 s3, .int .i64 s4, .int .i64 s5] 26)) X [.int .i64 7, .int .i64 i, .int .i64 n, .int .i64 t, .string b, .int .i64 e, .int .i64 s0, .int .i64 s1, .int .i64 s2, .int .i64 s3, .int .i64 s4, .int .i64 s5] 26) := Lib.hid ⟨by rw [← hX]; exact Blk.newA _ _ _, tab_below k0 htab, hwi.below k0, hsi.below k0, k0, by simp⟩
  have HB := Lib.hid (And.intro hi (And.intro hn he))
  have HP := Lib.hid (And.intro h0 (And.intro h1 (And.intro h3 h4)))
  have HQ := Lib.hid hb
  have HG := Lib.hid (And.intro hg hok)
  obtain ⟨tf, htf⟩ : ∃ n : Nat, Tk.own t = (n : Int) := ⟨(Tk.own t).toNat, by have := Tk.own_nn t; omega⟩
  have HT : Hid (t ≤ 9223372036854775807 ∧ Tk.own t = (tf : Int) ∧ (Le.t (Lo.tt t)).data.toList = Tx.text tf) := Lib.hid ⟨ht, htf, by rw [Le.t_list]; unfold Lo.tt; rw [htf]; rfl⟩
  have HR : Hid (Le.t (Lib.join [[100, 114, 97, 105, 110], Lo.tt t] [32]) = R) := Lib.hid hR
  have HLL : Hid (∀ l ∈ [[100, 114, 97, 105, 110], Lo.tt t], l.length ≤ 20000) := Lib.hid (by
    have gi := Lo.itoa_len hi
    have gn := Lo.itoa_len hn
    have ge := Lo.itoa_len he
    have gt := Lo.tt_len ht
    have gq := Lo.quo_len b hb
    have gs := Lo.stepL_len s0 s1 s2 s3 s4 s5 h0 h1 h3 h4
    intro l hl
    simp only [List.mem_cons, List.not_mem_nil, or_false] at hl
    rcases hl with rfl | rfl <;> first | decide | omega)
  clear hg hok hb hi hn he ht h0 h1 h3 h4 hR htab hwi hsi k0 htf
  go_enter Tryz.func7, Tryz.ntmps7
  go_upto_region 1 with fail
  clear hX
  revert HS
  generalize (w.alloc (.cells #[.int .i64 7, .int .i64 i, .int .i64 n, .int .i64 t, .string b, .int .i64 e, .int .i64 s0, .int .i64 s1, .int .i64 s2, .int .i64 s3, .int .i64 s4, .int .i64 s5] 26)) = W1
  intro HS
  have d0 := HS.out.bx.cell (i := 0) rfl
  have d1 := HS.out.bx.cell (i := 1) rfl
  have d2 := HS.out.bx.cell (i := 2) rfl
  have d3 := HS.out.bx.cell (i := 3) rfl
  have d4 := HS.out.bx.cell (i := 4) rfl
  have d5 := HS.out.bx.cell (i := 5) rfl
  have d6 := HS.out.bx.cell (i := 6) rfl
  have d7 := HS.out.bx.cell (i := 7) rfl
  have d8 := HS.out.bx.cell (i := 8) rfl
  have d9 := HS.out.bx.cell (i := 9) rfl
  have d10 := HS.out.bx.cell (i := 10) rfl
  have d11 := HS.out.bx.cell (i := 11) rfl
  go_upto_region 3 with (go_at_call 8; (with_reducible refine (lo_good 7 i n t b e s0 s1 s2 s3 s4 s5 true HG.out.1 HG.out.2 _ HS.out.wi HS.out.si).mono ?_); rintro e1 V1 ⟨rfl, q3⟩; have HSn := Lib.hid (HS.out.below q3); clear HS; have HS := HSn; clear HSn q3)
  clear d0 d1 d2 d3 d4 d5 d6 d7 d8 d9 d10 d11
  replace HS := Lib.hid (HS.out.below (Below.refl _ _).drew)
  have s0' := HS.out.s12
  go_region_held3 (fun W => W.cell? ⟨X, 0, none⟩ = some (.int .i64 7) ∧ W.cell? ⟨X, 1, none⟩ = some (.int .i64 i) ∧ W.cell? ⟨X, 2, none⟩ = some (.int .i64 n) ∧ W.cell? ⟨X, 3, none⟩ = some (.int .i64 t) ∧ W.cell? ⟨X, 4, none⟩ = some (.string b) ∧ W.cell? ⟨X, 5, none⟩ = some (.int .i64 e) ∧ W.cell? ⟨X, 6, none⟩ = some (.int .i64 s0) ∧ W.cell? ⟨X, 7, none⟩ = some (.int .i64 s1) ∧ W.cell? ⟨X, 8, none⟩ = some (.int .i64 s2) ∧ W.cell? ⟨X, 9, none⟩ = some (.int .i64 s3) ∧ W.cell? ⟨X, 10, none⟩ = some (.int .i64 s4) ∧ W.cell? ⟨X, 11, none⟩ = some (.int .i64 s5)) (first | with_reducible exact sA | with_reducible exact s0' | go_keep) (first
    | (go_at_call 21; (with_reducible refine (lo_itoa _ (by first | exact HB.out.1 | exact HB.out.2.1) _ HS.out.tab).mono ?_); rintro e1 V1 ⟨rfl, q3⟩; have HSn := Lib.hid (HS.out.below q3); clear HS; have HS := HSn; clear HSn q3; have sA := HS.out.s12))
  all_goals
    try clear sA
    try clear s0'
    have d0 := HS.out.bx.cell (i := 0) rfl
    have d1 := HS.out.bx.cell (i := 1) rfl
    have d2 := HS.out.bx.cell (i := 2) rfl
    have d3 := HS.out.bx.cell (i := 3) rfl
    have d4 := HS.out.bx.cell (i := 4) rfl
    have d5 := HS.out.bx.cell (i := 5) rfl
    have d6 := HS.out.bx.cell (i := 6) rfl
    have d7 := HS.out.bx.cell (i := 7) rfl
    have d8 := HS.out.bx.cell (i := 8) rfl
    have d9 := HS.out.bx.cell (i := 9) rfl
    have d10 := HS.out.bx.cell (i := 10) rfl
    have d11 := HS.out.bx.cell (i := 11) rfl
    go_wp2_with (first
      | (go_at_call 23; (with_reducible refine (tx_text t HT.out.1 tf HT.out.2.1 (Le.t (Lo.tt t)) HT.out.2.2 _ HS.out.tab).mono ?_); rintro e1 V1 ⟨rfl, q3⟩; have HSn := Lib.hid (HS.out.below q3); clear HS; have HS := HSn; clear HSn q3)
      | (go_at_call 22; refine (lo_words _ [[100, 114, 97, 105, 110], Lo.tt t] 2 rfl (by omega) HLL.out R HR.out 9 _ (Blk.newA _ _ _)).mono ?_; rintro e1 V2 ⟨rfl, q3⟩; have HSn := Lib.hid ((HS.out.below ((Below.refl _ _).alloc (Nat.le_refl _) _)).below q3); clear HS; have HS := HSn; clear HSn q3))
    go_ret2
    exact ⟨rfl, HS.out.be⟩
set_option maxRecDepth 20000 in
set_option maxHeartbeats 16000000 in
theorem lo_print8 (i n t : Int) (b : ByteArray) (e s0 s1 s2 s3 s4 s5 : Int) (hg : Lo.good ⟨8, i, n, t, b, e, s0, s1, s2, s3, s4, s5⟩ = true) (hok : Ev.ok ⟨8, i, n, t, b, e, s0, s1, s2, s3, s4, s5⟩) (hb : b.size ≤ 4000) (hi : Lo.i64 i) (hn : Lo.i64 n) (he : Lo.i64 e) (ht : t ≤ 9223372036854775807) (h0 : s0 ≤ 9223372036854775807) (h1 : Lo.i64 s1) (h3 : Lo.i64 s3) (h4 : Lo.i64 s4) (R : ByteArray) (hR : Le.t (Lo.line ⟨8, i, n, t, b, e, s0, s1, s2, s3, s4, s5⟩) = R) (w : World) (htab : Lib.TabIs Tryz.prog w "internal/strconv.uint64pow10" .u64 Lib.pow10Tab) (hwi : WI w) (hsi : SI w) :
    Calls Tryz.prog 7 #[.agg #[.int .i64 8, .int .i64 i, .int .i64 n, .int .i64 t, .string b, .int .i64 e, .int .i64 s0, .int .i64 s1, .int .i64 s2, .int .i64 s3, .int .i64 s4, .int .i64 s5]] w fun e w' => e = .returned (.tuple #[.string R, .int .i64 0]) ∧ Below w.heap.size w w' := by
  obtain ⟨X, hX⟩ : ∃ X, w.heap.size = X := ⟨_, rfl⟩
  have k0 : Below w.heap.size w (w.alloc (.cells #[.int .i64 8, .int .i64 i, .int .i64 n, .int .i64 t, .string b, .int .i64 e, .int .i64 s0, .int .i64 s1, .int .i64 s2, .int .i64 s3, .int .i64 s4, .int .i64 s5] 26)) := (Below.refl _ _).alloc (Nat.le_refl _) _
  have HS : Hid (LOG w (w.alloc (.cells #[.int .i64 8, .int .i64 i, .int .i64 n, .int .i64 t, .string b, .int .i64 e, .int .i64 s0, .int .i64 s1, .int .i64 s2, .int .i64 s3, .int .i64 s4, .int .i64 s5] 26)) X [.int .i64 8, .int .i64 i, .int .i64 n, .int .i64 t, .string b, .int .i64 e, .int .i64 s0, .int .i64 s1, .int .i64 s2, .int .i64 s3, .int .i64 s4, .int .i64 s5] 26) := Lib.hid ⟨by rw [← hX]; exact Blk.newA _ _ _, tab_below k0 htab, hwi.below k0, hsi.below k0, k0, by simp⟩
  have HB := Lib.hid (And.intro hi (And.intro hn he))
  have HP := Lib.hid (And.intro h0 (And.intro h1 (And.intro h3 h4)))
  have HQ := Lib.hid hb
  have HG := Lib.hid (And.intro hg hok)
  obtain ⟨tf, htf⟩ : ∃ n : Nat, Tk.own t = (n : Int) := ⟨(Tk.own t).toNat, by have := Tk.own_nn t; omega⟩
  have HT : Hid (t ≤ 9223372036854775807 ∧ Tk.own t = (tf : Int) ∧ (Le.t (Lo.tt t)).data.toList = Tx.text tf) := Lib.hid ⟨ht, htf, by rw [Le.t_list]; unfold Lo.tt; rw [htf]; rfl⟩
  have HR : Hid (Le.t (Lib.join [[115, 116, 101, 112], Lib.itoa i, Lo.stepL s0 s1 s2 s3 s4 s5] [32]) = R) := Lib.hid hR
  have HLL : Hid (∀ l ∈ [[115, 116, 101, 112], Lib.itoa i, Lo.stepL s0 s1 s2 s3 s4 s5], l.length ≤ 20000) := Lib.hid (by
    have gi := Lo.itoa_len hi
    have gn := Lo.itoa_len hn
    have ge := Lo.itoa_len he
    have gt := Lo.tt_len ht
    have gq := Lo.quo_len b hb
    have gs := Lo.stepL_len s0 s1 s2 s3 s4 s5 h0 h1 h3 h4
    intro l hl
    simp only [List.mem_cons, List.not_mem_nil, or_false] at hl
    rcases hl with rfl | rfl | rfl <;> first | decide | omega)
  clear hg hok hb hi hn he ht h0 h1 h3 h4 hR htab hwi hsi k0 htf
  go_enter Tryz.func7, Tryz.ntmps7
  go_upto_region 1 with fail
  clear hX
  revert HS
  generalize (w.alloc (.cells #[.int .i64 8, .int .i64 i, .int .i64 n, .int .i64 t, .string b, .int .i64 e, .int .i64 s0, .int .i64 s1, .int .i64 s2, .int .i64 s3, .int .i64 s4, .int .i64 s5] 26)) = W1
  intro HS
  have d0 := HS.out.bx.cell (i := 0) rfl
  have d1 := HS.out.bx.cell (i := 1) rfl
  have d2 := HS.out.bx.cell (i := 2) rfl
  have d3 := HS.out.bx.cell (i := 3) rfl
  have d4 := HS.out.bx.cell (i := 4) rfl
  have d5 := HS.out.bx.cell (i := 5) rfl
  have d6 := HS.out.bx.cell (i := 6) rfl
  have d7 := HS.out.bx.cell (i := 7) rfl
  have d8 := HS.out.bx.cell (i := 8) rfl
  have d9 := HS.out.bx.cell (i := 9) rfl
  have d10 := HS.out.bx.cell (i := 10) rfl
  have d11 := HS.out.bx.cell (i := 11) rfl
  go_upto_region 3 with (go_at_call 8; (with_reducible refine (lo_good 8 i n t b e s0 s1 s2 s3 s4 s5 true HG.out.1 HG.out.2 _ HS.out.wi HS.out.si).mono ?_); rintro e1 V1 ⟨rfl, q3⟩; have HSn := Lib.hid (HS.out.below q3); clear HS; have HS := HSn; clear HSn q3)
  clear d0 d1 d2 d3 d4 d5 d6 d7 d8 d9 d10 d11
  replace HS := Lib.hid (HS.out.below (Below.refl _ _).drew)
  have s0' := HS.out.s12
  go_region_held3 (fun W => W.cell? ⟨X, 0, none⟩ = some (.int .i64 8) ∧ W.cell? ⟨X, 1, none⟩ = some (.int .i64 i) ∧ W.cell? ⟨X, 2, none⟩ = some (.int .i64 n) ∧ W.cell? ⟨X, 3, none⟩ = some (.int .i64 t) ∧ W.cell? ⟨X, 4, none⟩ = some (.string b) ∧ W.cell? ⟨X, 5, none⟩ = some (.int .i64 e) ∧ W.cell? ⟨X, 6, none⟩ = some (.int .i64 s0) ∧ W.cell? ⟨X, 7, none⟩ = some (.int .i64 s1) ∧ W.cell? ⟨X, 8, none⟩ = some (.int .i64 s2) ∧ W.cell? ⟨X, 9, none⟩ = some (.int .i64 s3) ∧ W.cell? ⟨X, 10, none⟩ = some (.int .i64 s4) ∧ W.cell? ⟨X, 11, none⟩ = some (.int .i64 s5)) (first | with_reducible exact sA | with_reducible exact s0' | go_keep) (first
    | (go_at_call 21; (with_reducible refine (lo_itoa _ (by first | exact HB.out.1 | exact HB.out.2.1) _ HS.out.tab).mono ?_); rintro e1 V1 ⟨rfl, q3⟩; have HSn := Lib.hid (HS.out.below q3); clear HS; have HS := HSn; clear HSn q3; have sA := HS.out.s12))
  all_goals
    try clear sA
    try clear s0'
    have d0 := HS.out.bx.cell (i := 0) rfl
    have d1 := HS.out.bx.cell (i := 1) rfl
    have d2 := HS.out.bx.cell (i := 2) rfl
    have d3 := HS.out.bx.cell (i := 3) rfl
    have d4 := HS.out.bx.cell (i := 4) rfl
    have d5 := HS.out.bx.cell (i := 5) rfl
    have d6 := HS.out.bx.cell (i := 6) rfl
    have d7 := HS.out.bx.cell (i := 7) rfl
    have d8 := HS.out.bx.cell (i := 8) rfl
    have d9 := HS.out.bx.cell (i := 9) rfl
    have d10 := HS.out.bx.cell (i := 10) rfl
    have d11 := HS.out.bx.cell (i := 11) rfl
    go_wp2_with (first
      | (go_at_call 25; (with_reducible refine (lo_step s0 s1 s2 s3 s4 s5 HP.out.1 HP.out.2.1 HP.out.2.2.1 HP.out.2.2.2 (Le.t (Lo.stepL s0 s1 s2 s3 s4 s5)) rfl _ HS.out.tab HS.out.wi HS.out.si).mono ?_); rintro e1 V1 ⟨rfl, q3⟩; have HSn := Lib.hid (HS.out.below q3); clear HS; have HS := HSn; clear HSn q3)
      | (go_at_call 22; refine (lo_words _ [[115, 116, 101, 112], Lib.itoa i, Lo.stepL s0 s1 s2 s3 s4 s5] 3 rfl (by omega) HLL.out R HR.out 9 _ (Blk.newA _ _ _)).mono ?_; rintro e1 V2 ⟨rfl, q3⟩; have HSn := Lib.hid ((HS.out.below ((Below.refl _ _).alloc (Nat.le_refl _) _)).below q3); clear HS; have HS := HSn; clear HSn q3))
    go_ret2
    exact ⟨rfl, HS.out.be⟩
set_option maxRecDepth 20000 in
set_option maxHeartbeats 16000000 in
theorem lo_print9 (i n t : Int) (b : ByteArray) (e s0 s1 s2 s3 s4 s5 : Int) (hg : Lo.good ⟨9, i, n, t, b, e, s0, s1, s2, s3, s4, s5⟩ = true) (hok : Ev.ok ⟨9, i, n, t, b, e, s0, s1, s2, s3, s4, s5⟩) (hb : b.size ≤ 4000) (hi : Lo.i64 i) (hn : Lo.i64 n) (he : Lo.i64 e) (ht : t ≤ 9223372036854775807) (h0 : s0 ≤ 9223372036854775807) (h1 : Lo.i64 s1) (h3 : Lo.i64 s3) (h4 : Lo.i64 s4) (R : ByteArray) (hR : Le.t (Lo.line ⟨9, i, n, t, b, e, s0, s1, s2, s3, s4, s5⟩) = R) (w : World) (htab : Lib.TabIs Tryz.prog w "internal/strconv.uint64pow10" .u64 Lib.pow10Tab) (hwi : WI w) (hsi : SI w) :
    Calls Tryz.prog 7 #[.agg #[.int .i64 9, .int .i64 i, .int .i64 n, .int .i64 t, .string b, .int .i64 e, .int .i64 s0, .int .i64 s1, .int .i64 s2, .int .i64 s3, .int .i64 s4, .int .i64 s5]] w fun e w' => e = .returned (.tuple #[.string R, .int .i64 0]) ∧ Below w.heap.size w w' := by
  obtain ⟨X, hX⟩ : ∃ X, w.heap.size = X := ⟨_, rfl⟩
  have k0 : Below w.heap.size w (w.alloc (.cells #[.int .i64 9, .int .i64 i, .int .i64 n, .int .i64 t, .string b, .int .i64 e, .int .i64 s0, .int .i64 s1, .int .i64 s2, .int .i64 s3, .int .i64 s4, .int .i64 s5] 26)) := (Below.refl _ _).alloc (Nat.le_refl _) _
  have HS : Hid (LOG w (w.alloc (.cells #[.int .i64 9, .int .i64 i, .int .i64 n, .int .i64 t, .string b, .int .i64 e, .int .i64 s0, .int .i64 s1, .int .i64 s2, .int .i64 s3, .int .i64 s4, .int .i64 s5] 26)) X [.int .i64 9, .int .i64 i, .int .i64 n, .int .i64 t, .string b, .int .i64 e, .int .i64 s0, .int .i64 s1, .int .i64 s2, .int .i64 s3, .int .i64 s4, .int .i64 s5] 26) := Lib.hid ⟨by rw [← hX]; exact Blk.newA _ _ _, tab_below k0 htab, hwi.below k0, hsi.below k0, k0, by simp⟩
  have HB := Lib.hid (And.intro hi (And.intro hn he))
  have HP := Lib.hid (And.intro h0 (And.intro h1 (And.intro h3 h4)))
  have HQ := Lib.hid hb
  have HG := Lib.hid (And.intro hg hok)
  obtain ⟨tf, htf⟩ : ∃ n : Nat, Tk.own t = (n : Int) := ⟨(Tk.own t).toNat, by have := Tk.own_nn t; omega⟩
  have HT : Hid (t ≤ 9223372036854775807 ∧ Tk.own t = (tf : Int) ∧ (Le.t (Lo.tt t)).data.toList = Tx.text tf) := Lib.hid ⟨ht, htf, by rw [Le.t_list]; unfold Lo.tt; rw [htf]; rfl⟩
  have HR : Hid (Le.t (Lib.join [[115, 116, 111, 112]] [32]) = R) := Lib.hid hR
  have HLL : Hid (∀ l ∈ [[115, 116, 111, 112]], l.length ≤ 20000) := Lib.hid (by
    have gi := Lo.itoa_len hi
    have gn := Lo.itoa_len hn
    have ge := Lo.itoa_len he
    have gt := Lo.tt_len ht
    have gq := Lo.quo_len b hb
    have gs := Lo.stepL_len s0 s1 s2 s3 s4 s5 h0 h1 h3 h4
    intro l hl
    simp only [List.mem_cons, List.not_mem_nil, or_false] at hl
    subst hl; decide)
  clear hg hok hb hi hn he ht h0 h1 h3 h4 hR htab hwi hsi k0 htf
  go_enter Tryz.func7, Tryz.ntmps7
  go_upto_region 1 with fail
  clear hX
  revert HS
  generalize (w.alloc (.cells #[.int .i64 9, .int .i64 i, .int .i64 n, .int .i64 t, .string b, .int .i64 e, .int .i64 s0, .int .i64 s1, .int .i64 s2, .int .i64 s3, .int .i64 s4, .int .i64 s5] 26)) = W1
  intro HS
  have d0 := HS.out.bx.cell (i := 0) rfl
  have d1 := HS.out.bx.cell (i := 1) rfl
  have d2 := HS.out.bx.cell (i := 2) rfl
  have d3 := HS.out.bx.cell (i := 3) rfl
  have d4 := HS.out.bx.cell (i := 4) rfl
  have d5 := HS.out.bx.cell (i := 5) rfl
  have d6 := HS.out.bx.cell (i := 6) rfl
  have d7 := HS.out.bx.cell (i := 7) rfl
  have d8 := HS.out.bx.cell (i := 8) rfl
  have d9 := HS.out.bx.cell (i := 9) rfl
  have d10 := HS.out.bx.cell (i := 10) rfl
  have d11 := HS.out.bx.cell (i := 11) rfl
  go_upto_region 3 with (go_at_call 8; (with_reducible refine (lo_good 9 i n t b e s0 s1 s2 s3 s4 s5 true HG.out.1 HG.out.2 _ HS.out.wi HS.out.si).mono ?_); rintro e1 V1 ⟨rfl, q3⟩; have HSn := Lib.hid (HS.out.below q3); clear HS; have HS := HSn; clear HSn q3)
  clear d0 d1 d2 d3 d4 d5 d6 d7 d8 d9 d10 d11
  replace HS := Lib.hid (HS.out.below (Below.refl _ _).drew)
  have s0' := HS.out.s12
  go_region_held3 (fun W => W.cell? ⟨X, 0, none⟩ = some (.int .i64 9) ∧ W.cell? ⟨X, 1, none⟩ = some (.int .i64 i) ∧ W.cell? ⟨X, 2, none⟩ = some (.int .i64 n) ∧ W.cell? ⟨X, 3, none⟩ = some (.int .i64 t) ∧ W.cell? ⟨X, 4, none⟩ = some (.string b) ∧ W.cell? ⟨X, 5, none⟩ = some (.int .i64 e) ∧ W.cell? ⟨X, 6, none⟩ = some (.int .i64 s0) ∧ W.cell? ⟨X, 7, none⟩ = some (.int .i64 s1) ∧ W.cell? ⟨X, 8, none⟩ = some (.int .i64 s2) ∧ W.cell? ⟨X, 9, none⟩ = some (.int .i64 s3) ∧ W.cell? ⟨X, 10, none⟩ = some (.int .i64 s4) ∧ W.cell? ⟨X, 11, none⟩ = some (.int .i64 s5)) (first | with_reducible exact sA | with_reducible exact s0' | go_keep) (first
    | (go_at_call 21; (with_reducible refine (lo_itoa _ (by first | exact HB.out.1 | exact HB.out.2.1) _ HS.out.tab).mono ?_); rintro e1 V1 ⟨rfl, q3⟩; have HSn := Lib.hid (HS.out.below q3); clear HS; have HS := HSn; clear HSn q3; have sA := HS.out.s12))
  all_goals
    try clear sA
    try clear s0'
    have d0 := HS.out.bx.cell (i := 0) rfl
    have d1 := HS.out.bx.cell (i := 1) rfl
    have d2 := HS.out.bx.cell (i := 2) rfl
    have d3 := HS.out.bx.cell (i := 3) rfl
    have d4 := HS.out.bx.cell (i := 4) rfl
    have d5 := HS.out.bx.cell (i := 5) rfl
    have d6 := HS.out.bx.cell (i := 6) rfl
    have d7 := HS.out.bx.cell (i := 7) rfl
    have d8 := HS.out.bx.cell (i := 8) rfl
    have d9 := HS.out.bx.cell (i := 9) rfl
    have d10 := HS.out.bx.cell (i := 10) rfl
    have d11 := HS.out.bx.cell (i := 11) rfl
    go_wp2_with fail
    go_ret2
    exact ⟨by rw [← HR.out]; rfl, HS.out.be⟩
end Go.Proofs.YtfhhkmjjifbfeaaGreatDoor
