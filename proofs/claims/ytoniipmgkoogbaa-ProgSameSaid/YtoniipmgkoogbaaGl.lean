/- Contracts of patterns as texts (package glob): all bytes, a byte's text. -/
import Derived.Test.YtoniipmgkoogbaaCsQ
namespace Go.Proofs.Ytoniipmgkoogbaa
open Go.ChangeShapes Go.WideShapes Go.ChangeAt Go.RowKit
set_option linter.unusedSimpArgs false
set_option linter.unusedVariables false

/-- All bytes. -/
def Cs.all : BitVec 256 := ~~~0
/-- A byte's sign in a pattern. -/
def Cs.sg7 (b : UInt8) : List UInt8 := if b = 42 ∨ b = 63 ∨ b = 91 ∨ b = 93 ∨ b = 37 then [37, b] else [b]
/-- An item in a block. -/
def IB (w : World) (B : Nat) (r : Bool) (X : BitVec 256) : Prop := Blk w B [.bool r, .int .u64 (Cs.wd X 0), .int .u64 (Cs.wd X 1), .int .u64 (Cs.wd X 2), .int .u64 (Cs.wd X 3)] 69
def Cs.it (r : Bool) (X : BitVec 256) : Value := .agg #[.bool r, .int .u64 (Cs.wd X 0), .int .u64 (Cs.wd X 1), .int .u64 (Cs.wd X 2), .int .u64 (Cs.wd X 3)]
theorem IB.new (w : World) (r : Bool) (X : BitVec 256) : IB (w.alloc (.cells #[.bool r, .int .u64 (Cs.wd X 0), .int .u64 (Cs.wd X 1), .int .u64 (Cs.wd X 2), .int .u64 (Cs.wd X 3)] 69)) w.heap.size r X := Blk.newA w #[.bool r, .int .u64 (Cs.wd X 0), .int .u64 (Cs.wd X 1), .int .u64 (Cs.wd X 2), .int .u64 (Cs.wd X 3)] _
theorem IB.zero (w : World) : IB (w.alloc (.cells #[.bool false, .int .u64 0, .int .u64 0, .int .u64 0, .int .u64 0] 69)) w.heap.size false 0 := Blk.newA w #[.bool false, .int .u64 0, .int .u64 0, .int .u64 0, .int .u64 0] _
theorem IB.res {w W : World} {R : Nat} {r0 : Bool} {Z : BitVec 256} (h : IB W R r0 Z) (b : Below w.heap.size w W) (hR : w.heap.size ≤ R) (r : Bool) (Y : BitVec 256) : IB (((((W.setCell ⟨R, 0, none⟩ (.bool r)).setCell ⟨R, 1, none⟩ (.int .u64 (Cs.wd Y 0))).setCell ⟨R, 2, none⟩ (.int .u64 (Cs.wd Y 1))).setCell ⟨R, 3, none⟩ (.int .u64 (Cs.wd Y 2))).setCell ⟨R, 4, none⟩ (.int .u64 (Cs.wd Y 3))) R r Y ∧ Below w.heap.size w (((((W.setCell ⟨R, 0, none⟩ (.bool r)).setCell ⟨R, 1, none⟩ (.int .u64 (Cs.wd Y 0))).setCell ⟨R, 2, none⟩ (.int .u64 (Cs.wd Y 1))).setCell ⟨R, 3, none⟩ (.int .u64 (Cs.wd Y 2))).setCell ⟨R, 4, none⟩ (.int .u64 (Cs.wd Y 3))) :=
  ⟨((((Blk.set h 0 _).set 1 _).set 2 _).set 3 _).set 4 _, below_set (below_set (below_set (below_set (below_set b hR _ _) hR _ _) hR _ _) hR _ _) hR _ _⟩
theorem gl_every (w : World) :
    Calls Try.prog 39 #[] w fun e w' => e = .returned (Cs.sv Cs.all) ∧ Below w.heap.size w w' := by
  obtain ⟨F, hF⟩ : ∃ F, Cs.all = F := ⟨_, rfl⟩
  have HF : Hid (~~~(0 : BitVec 256) = F) := Lib.hid hF
  rw [hF]
  clear hF
  have hc : Hid (SB (w.alloc (.cells #[.int .u64 0, .int .u64 0, .int .u64 0, .int .u64 0] 67)) w.heap.size 0 ∧ Below w.heap.size w (w.alloc (.cells #[.int .u64 0, .int .u64 0, .int .u64 0, .int .u64 0] 67))) := Lib.hid ⟨SB.zero w, (Below.refl _ _).alloc (Nat.le_refl _) _⟩
  go_enter Try.func39, Try.ntmps39
  go_upto_region 1 with fail
  revert hc
  generalize w.alloc (.cells #[.int .u64 0, .int .u64 0, .int .u64 0, .int .u64 0] 67) = W
  intro hc
  go_wp2_with (go_at_call 44; rw [sv_zero]; refine (cs_not 0 _).mono ?_; rintro e W2 ⟨rfl, hb2⟩; rw [HF.out]; unfold Cs.sv; have HC : Hid (SB W2 w.heap.size 0 ∧ Below w.heap.size w W2) := Lib.hid ⟨hc.out.1.below hb2, hc.out.2.trans (hb2.mono hc.out.2.size)⟩; clear hb2; have d0 := HC.out.1.at (i := 0) (by decide); have df0 := HC.out.1.free 0; have d1 := HC.out.1.at (i := 1) (by decide); have df1 := HC.out.1.free 1; have d2 := HC.out.1.at (i := 2) (by decide); have df2 := HC.out.1.free 2; have d3 := HC.out.1.at (i := 3) (by decide); have df3 := HC.out.1.free 3)
  have hr := Lib.hid (HC.out.1.res HC.out.2 (Nat.le_refl _) F)
  clear d0 d1 d2 d3 df0 df1 df2 df3 HC
  revert hr
  generalize (((W2.setCell ⟨w.heap.size, 0, none⟩ (.int .u64 (Cs.wd F 0))).setCell ⟨w.heap.size, 1, none⟩ (.int .u64 (Cs.wd F 1))).setCell ⟨w.heap.size, 2, none⟩ (.int .u64 (Cs.wd F 2))).setCell ⟨w.heap.size, 3, none⟩ (.int .u64 (Cs.wd F 3)) = W3
  intro hr
  have c0 := hr.out.1.at (i := 0) (by decide)
  have c1 := hr.out.1.at (i := 1) (by decide)
  have c2 := hr.out.1.at (i := 2) (by decide)
  have c3 := hr.out.1.at (i := 3) (by decide)
  refine bodyPost_ret (v := .agg #[.int .u64 (Cs.wd F 0), .int .u64 (Cs.wd F 1), .int .u64 (Cs.wd F 2), .int .u64 (Cs.wd F 3)]) (by simp [results, Try.results39, go_sem, c0, c1, c2, c3]) rfl ?_
  exact ⟨rfl, hr.out.2⟩
theorem sg7_len (b : UInt8) : 1 ≤ (Cs.sg7 b).length ∧ (Cs.sg7 b).length ≤ 2 := by unfold Cs.sg7; split <;> simp
end Go.Proofs.Ytoniipmgkoogbaa
