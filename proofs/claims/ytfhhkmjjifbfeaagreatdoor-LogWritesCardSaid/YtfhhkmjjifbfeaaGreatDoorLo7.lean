/- Log: the words of a step. -/
import Derived.Test.YtfhhkmjjifbfeaaGreatDoorLo2
import Derived.Test.YtfhhkmjjifbfeaaGreatDoorLo6
import Derived.Deep.RegionHeld3
import Derived.WalkKit
import Derived.ProofKit
import Derived.Handy
import Derived.WalkLawsBesides
import Derived.WalkSpells
import Derived.Lib.Hide
import Derived.Lib.SliceRun
import Derived.Deep.RegionLaw
import Derived.RegionTactic
import Derived.ChangeAlike
import Derived.WalkSmall
import Derived.Deep.QuietTactic
import Derived.BigQuiet
import Derived.OwnWalk
import Derived.Outline
import Derived.Deep.CutRange
import Derived.Deep.CutBlock
import Derived.LoopTactic
namespace Go.Proofs.YtfhhkmjjifbfeaaGreatDoor
open Go.ChangeShapes Go.WideShapes Go.ChangeAt Go.RowKit
set_option linter.unusedSimpArgs false
set_option linter.unusedVariables false

def Lo.i64 (n : Int) : Prop := -9223372036854775808 ≤ n ∧ n ≤ 9223372036854775807
def Lo.tt (t : Int) : List UInt8 := Tx.text (Tk.own t).toNat
/-- The words of a step. -/
def Lo.stepL (s0 s1 s2 s3 s4 s5 : Int) : List UInt8 := Lib.join [Lo.tt s0, Lib.itoa s1, (Lo.word s2).data.toList, Lib.itoa s3, Lib.itoa s4, (Le.word s5).data.toList] [32]
theorem Lo.itoa_len {n : Int} (h : Lo.i64 n) : (Lib.itoa n).length ≤ 30 := by
  unfold Lo.i64 at h
  unfold Lib.itoa
  split
  · rw [List.length_cons]
    by_cases h2 : n.natAbs ≤ 9223372036854775807
    · have := Tx.dec_size n.natAbs h2; omega
    · rw [show n.natAbs = 9223372036854775808 by omega, Lib.decDigits, dif_neg (by omega), List.length_append]
      have := Tx.dec_size 922337203685477580 (by omega)
      simp
      omega
  · have := Tx.dec_size n.toNat (by omega); omega
theorem Lo.tt_len {t : Int} (h : t ≤ 9223372036854775807) : (Lo.tt t).length ≤ 30 := by
  unfold Lo.tt Tx.text
  split
  · decide
  · have h1 := Tk.own_le t h
    have := Tx.dec_size (Tk.own t).toNat (by omega)
    omega
theorem Lo.word_le (s : Int) : (Lo.word s).size ≤ 30 := by
  unfold Lo.word
  by_cases h1 : s = 1
  · rw [if_pos h1]; decide
  rw [if_neg h1]
  by_cases h2 : s = 2
  · rw [if_pos h2]; decide
  rw [if_neg h2]
  by_cases h3 : s = 3
  · rw [if_pos h3]; decide
  rw [if_neg h3]
  by_cases h4 : s = 4
  · rw [if_pos h4]; decide
  rw [if_neg h4]
  by_cases h5 : s = 5
  · rw [if_pos h5]; decide
  rw [if_neg h5]
  by_cases h6 : s = 6
  · rw [if_pos h6]; decide
  rw [if_neg h6]
  by_cases h7 : s = 7
  · rw [if_pos h7]; decide
  rw [if_neg h7]
  by_cases h8 : s = 8
  · rw [if_pos h8]; decide
  rw [if_neg h8]
  by_cases h9 : s = 9
  · rw [if_pos h9]; decide
  rw [if_neg h9]
  by_cases h10 : s = 10
  · rw [if_pos h10]; decide
  rw [if_neg h10]
  by_cases h11 : s = 11
  · rw [if_pos h11]; decide
  rw [if_neg h11]
  by_cases h12 : s = 12
  · rw [if_pos h12]; decide
  rw [if_neg h12]
  by_cases h13 : s = 13
  · rw [if_pos h13]; decide
  rw [if_neg h13]
  by_cases h14 : s = 14
  · rw [if_pos h14]; decide
  rw [if_neg h14]
  decide
theorem Lo.word5_le (s : Int) : (Le.word s).size ≤ 30 := by
  unfold Le.word
  repeat' split
  all_goals decide
theorem lo_itoa (n : Int) (h : Lo.i64 n) (w : World) (htab : Lib.TabIs Tryz.prog w "internal/strconv.uint64pow10" .u64 Lib.pow10Tab) : Calls Tryz.prog 21 #[.int .i64 n] w fun e w' => e = .returned (.string (Le.t (Lib.itoa n))) ∧ Below w.heap.size w w' := le_itoa n h w htab
/-- What a line of the log works on. -/
structure LOG (w W : World) (X : Nat) (cs : List Value) (T : TypeId) : Prop where
  bx : Blk W X cs T
  tab : Lib.TabIs Tryz.prog W "internal/strconv.uint64pow10" .u64 Lib.pow10Tab
  wi : WI W
  si : SI W
  be : Below w.heap.size w W
  le : w.heap.size ≤ W.heap.size
theorem LOG.below {w W W' : World} {X : Nat} {cs : List Value} {T : TypeId} (h : LOG w W X cs T) (k : Below W.heap.size W W') : LOG w W' X cs T := ⟨h.bx.chg (l := []) (Chg.of_fresh k) (by simp), tab_below k h.tab, h.wi.below k, h.si.below k, h.be.trans (k.mono h.le), Nat.le_trans h.le k.size⟩
theorem LOG.s6 {w W : World} {X : Nat} {s0 s1 s2 s3 s4 s5 : Int} {T : TypeId} (h : LOG w W X [.int .i64 s0, .int .i64 s1, .int .i64 s2, .int .i64 s3, .int .i64 s4, .int .i64 s5] T) : W.cell? ⟨X, 0, none⟩ = some (.int .i64 s0) ∧ W.cell? ⟨X, 1, none⟩ = some (.int .i64 s1) ∧ W.cell? ⟨X, 2, none⟩ = some (.int .i64 s2) ∧ W.cell? ⟨X, 3, none⟩ = some (.int .i64 s3) ∧ W.cell? ⟨X, 4, none⟩ = some (.int .i64 s4) ∧ W.cell? ⟨X, 5, none⟩ = some (.int .i64 s5) := ⟨h.bx.cell (i := 0) rfl, h.bx.cell (i := 1) rfl, h.bx.cell (i := 2) rfl, h.bx.cell (i := 3) rfl, h.bx.cell (i := 4) rfl, h.bx.cell (i := 5) rfl⟩
set_option maxRecDepth 20000 in
set_option maxHeartbeats 16000000 in
theorem lo_step (s0 s1 s2 s3 s4 s5 : Int) (h0 : s0 ≤ 9223372036854775807) (h1 : Lo.i64 s1) (h3 : Lo.i64 s3) (h4 : Lo.i64 s4) (R : ByteArray) (hR : Le.t (Lo.stepL s0 s1 s2 s3 s4 s5) = R) (w : World) (htab : Lib.TabIs Tryz.prog w "internal/strconv.uint64pow10" .u64 Lib.pow10Tab) (hwi : WI w) (hsi : SI w) :
    Calls Tryz.prog 25 #[.agg #[.int .i64 s0, .int .i64 s1, .int .i64 s2, .int .i64 s3, .int .i64 s4, .int .i64 s5]] w fun e w' => e = .returned (.string R) ∧ Below w.heap.size w w' := by
  obtain ⟨X, hX⟩ : ∃ X, w.heap.size = X := ⟨_, rfl⟩
  have k0 : Below w.heap.size w (w.alloc (.cells #[.int .i64 s0, .int .i64 s1, .int .i64 s2, .int .i64 s3, .int .i64 s4, .int .i64 s5] 24)) := (Below.refl _ _).alloc (Nat.le_refl _) _
  have HS : Hid (LOG w (w.alloc (.cells #[.int .i64 s0, .int .i64 s1, .int .i64 s2, .int .i64 s3, .int .i64 s4, .int .i64 s5] 24)) X [.int .i64 s0, .int .i64 s1, .int .i64 s2, .int .i64 s3, .int .i64 s4, .int .i64 s5] 24) := Lib.hid ⟨by rw [← hX]; exact Blk.newA _ _ _, tab_below k0 htab, hwi.below k0, hsi.below k0, k0, by simp⟩
  have HB := Lib.hid (And.intro h1 (And.intro h3 h4))
  obtain ⟨tf, htf⟩ : ∃ n : Nat, Tk.own s0 = (n : Int) := ⟨(Tk.own s0).toNat, by have := Tk.own_nn s0; omega⟩
  have HT : Hid (s0 ≤ 9223372036854775807 ∧ Tk.own s0 = (tf : Int) ∧ (Le.t (Lo.tt s0)).data.toList = Tx.text tf) := Lib.hid ⟨h0, htf, by rw [Le.t_list]; unfold Lo.tt; rw [htf]; rfl⟩
  obtain ⟨L2, hL2⟩ : ∃ x, (Lo.word s2).data.toList = x := ⟨_, rfl⟩
  obtain ⟨L5, hL5⟩ : ∃ x, (Le.word s5).data.toList = x := ⟨_, rfl⟩
  have HW : Hid (Lo.word s2 = Le.t L2 ∧ Le.word s5 = Le.t L5) := Lib.hid ⟨Le.t_of hL2, Le.t_of hL5⟩
  have HR : Hid (Le.t (Lib.join [Lo.tt s0, Lib.itoa s1, L2, Lib.itoa s3, Lib.itoa s4, L5] [32]) = R) := Lib.hid (by rw [← hR, ← hL2, ← hL5]; rfl)
  have HLL : Hid (∀ l ∈ [Lo.tt s0, Lib.itoa s1, L2, Lib.itoa s3, Lib.itoa s4, L5], l.length ≤ 20000) := Lib.hid (by
    have g2 : L2.length ≤ 30 := by rw [← hL2]; exact Lo.word_le s2
    have g5 : L5.length ≤ 30 := by rw [← hL5]; exact Lo.word5_le s5
    have g0 := Lo.tt_len h0
    have g1 := Lo.itoa_len h1
    have g3 := Lo.itoa_len h3
    have g4 := Lo.itoa_len h4
    intro l hl
    simp only [List.mem_cons, List.not_mem_nil, or_false] at hl
    rcases hl with rfl | rfl | rfl | rfl | rfl | rfl <;> omega)
  clear h0 h1 h3 h4 hR htab hwi hsi k0 htf hL2 hL5
  go_enter Tryz.func25, Tryz.ntmps25
  go_upto_region 1 with fail
  clear hX
  revert HS
  generalize (w.alloc (.cells #[.int .i64 s0, .int .i64 s1, .int .i64 s2, .int .i64 s3, .int .i64 s4, .int .i64 s5] 24)) = W1
  intro HS
  replace HS := Lib.hid (HS.out.below (Below.refl _ _).drew)
  have s0' := HS.out.s6
  go_region_held3 (fun W => W.cell? ⟨X, 0, none⟩ = some (.int .i64 s0) ∧ W.cell? ⟨X, 1, none⟩ = some (.int .i64 s1) ∧ W.cell? ⟨X, 2, none⟩ = some (.int .i64 s2) ∧ W.cell? ⟨X, 3, none⟩ = some (.int .i64 s3) ∧ W.cell? ⟨X, 4, none⟩ = some (.int .i64 s4) ∧ W.cell? ⟨X, 5, none⟩ = some (.int .i64 s5)) (first | with_reducible exact sA | with_reducible exact s0' | go_keep) (first
    | (go_at_call 21; (with_reducible refine (lo_itoa _ (by first | exact HB.out.1 | exact HB.out.2.1 | exact HB.out.2.2) _ HS.out.tab).mono ?_); rintro e1 V1 ⟨rfl, q3⟩; have HSn := Lib.hid (HS.out.below q3); clear HS; have HS := HSn; clear HSn q3; have sA := HS.out.s6)
    | (go_at_call 23; (with_reducible refine (tx_text s0 HT.out.1 tf HT.out.2.1 (Le.t (Lo.tt s0)) HT.out.2.2 _ HS.out.tab).mono ?_); rintro e1 V1 ⟨rfl, q3⟩; have HSn := Lib.hid (HS.out.below q3); clear HS; have HS := HSn; clear HSn q3; have sA := HS.out.s6)
    | (go_at_call 10; (with_reducible refine (lo_what s2 (Le.t L2) HW.out.1 _ HS.out.wi).mono ?_); rintro e1 V1 ⟨rfl, q3⟩; subst q3)
    | (go_at_call 12; (with_reducible refine (le_status s5 (Le.t L5) HW.out.2 _ HS.out.si).mono ?_); rintro e1 V1 ⟨rfl, q3⟩; subst q3)
    | (go_at_call 22; refine (lo_words _ [Lo.tt s0, Lib.itoa s1, L2, Lib.itoa s3, Lib.itoa s4, L5] 6 rfl (by omega) HLL.out R HR.out 9 _ (Blk.newA _ _ _)).mono ?_; rintro e1 V2 ⟨rfl, q3⟩; have HSn := Lib.hid ((HS.out.below ((Below.refl _ _).alloc (Nat.le_refl _) _)).below q3); clear HS; have HS := HSn; clear HSn q3; have sA := HS.out.s6))
  all_goals
    go_wp2_with fail
    go_ret
    exact ⟨rfl, HS.out.be⟩
end Go.Proofs.YtfhhkmjjifbfeaaGreatDoor
