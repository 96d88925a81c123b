/- Scripts: lives. -/
import Derived.Test.YtoniipmgkoogbaaPg4
import Derived.Lib.SliceRun
import Derived.Deep.RegionLaw
import Derived.WalkKit
import Derived.ProofKit
import Derived.Handy
import Derived.WalkLawsBesides
import Derived.WalkSpells
import Derived.Lib.Hide
import Derived.RegionTactic
import Derived.ChangeAlike
import Derived.WalkSmall
import Derived.Deep.QuietTactic
import Derived.BigQuiet
import Derived.OwnWalk
import Derived.Outline
import Derived.Deep.CutRange
import Derived.Deep.CutBlock
import Derived.LoopTactic
namespace Go.Proofs.Ytoniipmgkoogbaa
open Go.ChangeShapes Go.WideShapes Go.ChangeAt Go.RowKit
set_option linter.unusedSimpArgs false
set_option linter.unusedVariables false


set_option maxRecDepth 20000 in
set_option maxHeartbeats 8000000 in
theorem pg_good (nm : ByteArray) (dl jp : Int) (oa : Option Addr) (n c : Nat) (L : List Pg.Op) (hl : L.length = n) (hn : n ≤ maxLen) (hnm : nm.size ≤ maxLen) (i : Int) (e : Nat) (he : Pg.wrong nm dl jp L = (i, e)) (b : Bool) (hb : decide (e = 0) = b) (w : World) (HO : OL w oa L) : Calls Try.prog 19 #[.agg #[.string nm, .int .i64 dl, .int .i64 jp, .slice oa n c]] w fun r w' => r = .returned (.bool b) ∧ Below w.heap.size w w' := by
  have HL := Lib.hid (And.intro hl (And.intro HO he))
  clear hl HO he
  by_cases h0 : e = 0
  · have i0 : (e : Int) = 0 := by omega
    obtain rfl : true = b := by rw [← hb]; simp [h0]
    clear hb h0
    go_enter Try.func19, Try.ntmps19
    go_wp2_with (first | (go_at_call 6; refine (pg_wrong nm dl jp oa n c L HL.out.1 hn hnm i e HL.out.2.2 _ (HL.out.2.1.below ((Below.refl _ _).alloc (Nat.le_refl _) _))).mono ?_; rintro r W1 ⟨rfl, hb1⟩; have HB := Lib.hid (((Below.refl w.heap.size w).alloc (Nat.le_refl _) _).trans (hb1.mono (by simp))); clear hb1) | fail)
    go_ret
    exact ⟨rfl, HB.out⟩
  · have i0 : ¬ (e : Int) = 0 := by omega
    have i1 : ((e : Int) == 0) = false := by simpa using i0
    obtain rfl : false = b := by rw [← hb]; simp [h0]
    clear hb h0
    go_enter Try.func19, Try.ntmps19
    go_wp2_with (first | (go_at_call 6; refine (pg_wrong nm dl jp oa n c L HL.out.1 hn hnm i e HL.out.2.2 _ (HL.out.2.1.below ((Below.refl _ _).alloc (Nat.le_refl _) _))).mono ?_; rintro r W1 ⟨rfl, hb1⟩; have HB := Lib.hid (((Below.refl w.heap.size w).alloc (Nat.le_refl _) _).trans (hb1.mono (by simp))); clear hb1) | fail)
    go_ret
    exact ⟨rfl, HB.out⟩
theorem lv13_ol {w : World} {g : Nat} (t : Int) (h : Blk w g [.int .i64 1, .string ⟨#[97]⟩, .int .i64 0, .int .i64 0, .slice none 0 0, .int .i64 0, .int .i64 0, .int .i64 3, .string ⟨#[]⟩, .int .i64 0, .int .i64 t, .slice none 0 0, .int .i64 0, .int .i64 0] 27) : OL w (some ⟨g, 0, none⟩) [⟨1, ⟨#[97]⟩, 0, 0, [], 0, 0⟩, ⟨3, ⟨#[]⟩, 0, t, [], 0, 0⟩] := by
  intro i k tx n to1 ar ot oe hi
  match i, hi with
  | 0, hi =>
    simp at hi
    obtain ⟨rfl, rfl, rfl, rfl, rfl, rfl, rfl⟩ := hi
    exact ⟨by decide, by unfold maxLen; simp, g, 0, none, 0, rfl, h.lt, h.cell (i := 0) rfl, h.cell (i := 1) rfl, h.cell (i := 2) rfl, h.cell (i := 3) rfl, h.cell (i := 4) rfl, h.cell (i := 5) rfl, h.cell (i := 6) rfl, AL.nil _ _⟩
  | 1, hi =>
    simp at hi
    obtain ⟨rfl, rfl, rfl, rfl, rfl, rfl, rfl⟩ := hi
    exact ⟨by decide, by unfold maxLen; simp, g, 0, none, 0, rfl, h.lt, h.cell (i := 7) rfl, h.cell (i := 8) rfl, h.cell (i := 9) rfl, h.cell (i := 10) rfl, h.cell (i := 11) rfl, h.cell (i := 12) rfl, h.cell (i := 13) rfl, AL.nil _ _⟩
  | (m + 2), hi => simp at hi
theorem lv13_a : Pg.wrong ⟨#[97]⟩ 9 0 [⟨1, ⟨#[97]⟩, 0, 0, [], 0, 0⟩, ⟨3, ⟨#[]⟩, 0, 3, [], 0, 0⟩] = (1, 13) := by decide +kernel
theorem lv13_b : Pg.wrong ⟨#[97]⟩ 9 0 [⟨1, ⟨#[97]⟩, 0, 0, [], 0, 0⟩, ⟨3, ⟨#[]⟩, 0, 2, [], 0, 0⟩] = (0, 0) := by decide +kernel
set_option maxRecDepth 20000 in
set_option maxHeartbeats 8000000 in
theorem lives13 (w : World) : Calls Try.prog 7 #[] w fun r w' => r = .returned (.bool true) ∧ Below w.heap.size w w' := by
  go_enter Try.func7, Try.ntmps7
  go_upto_region 2 with fail
  have H0 : Hid (Blk ((w.alloc (.cells #[.int .i64 1, .string ⟨#[97]⟩, .int .i64 0, .int .i64 0, .slice none 0 0, .int .i64 0, .int .i64 0, .int .i64 3, .string ⟨#[]⟩, .int .i64 0, .int .i64 3, .slice none 0 0, .int .i64 0, .int .i64 0] 27)).alloc (.cells #[.string ⟨#[97]⟩, .int .i64 9, .int .i64 0, .slice (some ⟨w.heap.size, 0, none⟩) 2 2] 24)) w.heap.size [.int .i64 1, .string ⟨#[97]⟩, .int .i64 0, .int .i64 0, .slice none 0 0, .int .i64 0, .int .i64 0, .int .i64 3, .string ⟨#[]⟩, .int .i64 0, .int .i64 3, .slice none 0 0, .int .i64 0, .int .i64 0] 27 ∧ Blk ((w.alloc (.cells #[.int .i64 1, .string ⟨#[97]⟩, .int .i64 0, .int .i64 0, .slice none 0 0, .int .i64 0, .int .i64 0, .int .i64 3, .string ⟨#[]⟩, .int .i64 0, .int .i64 3, .slice none 0 0, .int .i64 0, .int .i64 0] 27)).alloc (.cells #[.string ⟨#[97]⟩, .int .i64 9, .int .i64 0, .slice (some ⟨w.heap.size, 0, none⟩) 2 2] 24)) (w.heap.size + 1) [.string ⟨#[97]⟩, .int .i64 9, .int .i64 0, .slice (some ⟨w.heap.size, 0, none⟩) 2 2] 24 ∧ Below w.heap.size w ((w.alloc (.cells #[.int .i64 1, .string ⟨#[97]⟩, .int .i64 0, .int .i64 0, .slice none 0 0, .int .i64 0, .int .i64 0, .int .i64 3, .string ⟨#[]⟩, .int .i64 0, .int .i64 3, .slice none 0 0, .int .i64 0, .int .i64 0] 27)).alloc (.cells #[.string ⟨#[97]⟩, .int .i64 9, .int .i64 0, .slice (some ⟨w.heap.size, 0, none⟩) 2 2] 24))) := Lib.hid (by
    have b := Blk.newA (w.alloc (.cells #[.int .i64 1, .string ⟨#[97]⟩, .int .i64 0, .int .i64 0, .slice none 0 0, .int .i64 0, .int .i64 0, .int .i64 3, .string ⟨#[]⟩, .int .i64 0, .int .i64 3, .slice none 0 0, .int .i64 0, .int .i64 0] 27)) #[.string ⟨#[97]⟩, .int .i64 9, .int .i64 0, .slice (some ⟨w.heap.size, 0, none⟩) 2 2] 24
    have e : (w.alloc (.cells #[.int .i64 1, .string ⟨#[97]⟩, .int .i64 0, .int .i64 0, .slice none 0 0, .int .i64 0, .int .i64 0, .int .i64 3, .string ⟨#[]⟩, .int .i64 0, .int .i64 3, .slice none 0 0, .int .i64 0, .int .i64 0] 27)).heap.size = w.heap.size + 1 := by simp
    rw [e] at b
    exact ⟨(Blk.newA w #[.int .i64 1, .string ⟨#[97]⟩, .int .i64 0, .int .i64 0, .slice none 0 0, .int .i64 0, .int .i64 0, .int .i64 3, .string ⟨#[]⟩, .int .i64 0, .int .i64 3, .slice none 0 0, .int .i64 0, .int .i64 0] 27).alloc _, b, bel2 w _ _⟩)
  revert H0
  generalize ((w.alloc (.cells #[.int .i64 1, .string ⟨#[97]⟩, .int .i64 0, .int .i64 0, .slice none 0 0, .int .i64 0, .int .i64 0, .int .i64 3, .string ⟨#[]⟩, .int .i64 0, .int .i64 3, .slice none 0 0, .int .i64 0, .int .i64 0] 27)).alloc (.cells #[.string ⟨#[97]⟩, .int .i64 9, .int .i64 0, .slice (some ⟨w.heap.size, 0, none⟩) 2 2] 24)) = W0
  intro H0
  have p0 := H0.out.2.1.cell (i := 0) rfl
  have p1 := H0.out.2.1.cell (i := 1) rfl
  have p2 := H0.out.2.1.cell (i := 2) rfl
  have p3 := H0.out.2.1.cell (i := 3) rfl
  go_upto_region 3 with (go_at_call 6; refine (pg_wrong ⟨#[97]⟩ 9 0 _ 2 2 [⟨1, ⟨#[97]⟩, 0, 0, [], 0, 0⟩, ⟨3, ⟨#[]⟩, 0, 3, [], 0, 0⟩] rfl (by unfold maxLen; omega) (by decide) 1 13 lv13_a _ (lv13_ol 3 H0.out.1)).mono ?_; rintro r W1 ⟨rfl, hb1⟩; have H1 := Lib.hid (And.intro (H0.out.1.below hb1 H0.out.1.lt) (And.intro (H0.out.2.1.below hb1 H0.out.2.1.lt) (H0.out.2.2.trans (hb1.mono H0.out.2.2.size)))); clear hb1 p0 p1 p2 p3 H0)
  have p3 := H1.out.2.1.cell (i := 3) rfl
  have q3 := H1.out.1.cell (i := 10) rfl
  have f3 := H1.out.1.free 10
  go_upto_region 4 with fail
  have H2 : Hid (Blk (W1.setCell ⟨w.heap.size, 10, none⟩ (.int .i64 2)) w.heap.size [.int .i64 1, .string ⟨#[97]⟩, .int .i64 0, .int .i64 0, .slice none 0 0, .int .i64 0, .int .i64 0, .int .i64 3, .string ⟨#[]⟩, .int .i64 0, .int .i64 2, .slice none 0 0, .int .i64 0, .int .i64 0] 27 ∧ Blk (W1.setCell ⟨w.heap.size, 10, none⟩ (.int .i64 2)) (w.heap.size + 1) [.string ⟨#[97]⟩, .int .i64 9, .int .i64 0, .slice (some ⟨w.heap.size, 0, none⟩) 2 2] 24 ∧ Below w.heap.size w (W1.setCell ⟨w.heap.size, 10, none⟩ (.int .i64 2))) := Lib.hid ⟨H1.out.1.set 10 _, H1.out.2.1.other (by omega) _ _, H1.out.2.2.trans (((Chg.refl [w.heap.size] W1).set (Or.inl (by simp)) 10 _).below H1.out.2.2.size (by simp))⟩
  clear p3 q3 f3
  revert H2
  generalize (W1.setCell ⟨w.heap.size, 10, none⟩ (.int .i64 2)) = W2
  intro H2
  have p0 := H2.out.2.1.cell (i := 0) rfl
  have p1 := H2.out.2.1.cell (i := 1) rfl
  have p2 := H2.out.2.1.cell (i := 2) rfl
  have p3 := H2.out.2.1.cell (i := 3) rfl
  go_wp2_with (first
    | (go_at_call 19; refine (pg_good ⟨#[97]⟩ 9 0 _ 2 2 [⟨1, ⟨#[97]⟩, 0, 0, [], 0, 0⟩, ⟨3, ⟨#[]⟩, 0, 2, [], 0, 0⟩] rfl (by unfold maxLen; omega) (by decide) 0 0 lv13_b true rfl _ (lv13_ol 2 H2.out.1)).mono ?_; rintro r W3 ⟨rfl, hb1⟩; have H3 := Lib.hid (H2.out.2.2.trans (hb1.mono H2.out.2.2.size)); clear hb1)
    | (go_at_call 12; refine (pg_word 1 { data := #[115, 101, 110, 100] } rfl _).mono ?_; rintro r W4 ⟨rfl, rfl⟩)
    | fail)
  go_ret
  exact ⟨rfl, H3.out⟩
end Go.Proofs.Ytoniipmgkoogbaa
