/- Contracts of sets of bytes (package class): one byte more, whether a byte is in a set, all others, both together. -/
import Derived.Test.YtoniipmgkoogbaaCsMath
import Derived.Test.YtoniipmgkoogbaaBytes
import Derived.WalkKit
import Derived.ProofKit
import Derived.OpenShut
import Derived.Handy
import Derived.WalkLawsBesides
import Derived.WalkSpells
import Derived.Lib.Hide
import Derived.RegionTactic
import Derived.ChangeAlike
import Derived.WalkSmall
import Derived.Deep.QuietTactic
import Derived.BigQuiet
import Derived.StillTailTactics
import Derived.OwnWalk
import Derived.Outline
import Derived.Deep.CutRange
import Derived.Deep.CutBlock
import Derived.Lib.AppendStr
import Derived.Lib.SlBytesRow
namespace Go.Proofs.Ytoniipmgkoogbaa
open Go.ChangeShapes Go.WideShapes Go.ChangeAt Go.RowKit
set_option linter.unusedSimpArgs false
set_option linter.unusedVariables false

/-- A set in a block of its own. -/
def SB (w : World) (B : Nat) (X : BitVec 256) : Prop := Blk w B (Cs.cells X) 67
theorem SB.new (w : World) (X : BitVec 256) : SB (w.alloc (.cells #[.int .u64 (Cs.wd X 0), .int .u64 (Cs.wd X 1), .int .u64 (Cs.wd X 2), .int .u64 (Cs.wd X 3)] 67)) w.heap.size X := Blk.new w (Cs.cells X) _
theorem SB.zero (w : World) : SB (w.alloc (.cells #[.int .u64 0, .int .u64 0, .int .u64 0, .int .u64 0] 67)) w.heap.size 0 := Blk.new w (Cs.cells 0) _
theorem SB.at {w : World} {B : Nat} {X : BitVec 256} (h : SB w B X) {i : Nat} (hi : i < 4) : w.cell? ⟨B, i, none⟩ = some (.int .u64 (Cs.wd X i)) := Blk.cell h (Cs.cells_at X i hi)
theorem tdiv_nat (b : Nat) (k : Nat) : (b : Int).tdiv (k : Int) = ((b / k : Nat) : Int) := by
  rw [Int.tdiv_eq_ediv_of_nonneg (Int.natCast_nonneg b)]; omega
theorem tmod_nat (b : Nat) (k : Nat) : (b : Int).tmod (k : Int) = ((b % k : Nat) : Int) := by
  rw [Int.tmod_eq_emod_of_nonneg (Int.natCast_nonneg b)]; omega
theorem and_one (x : Int) (h0 : 0 ≤ x) (h1 : x < 18446744073709551616) : bits BinOp.and IntKind.u64 x 1 = x % 2 := by
  show IntKind.u64.wrap _ = _
  have e : (BitVec.ofInt 64 x &&& BitVec.ofInt 64 1).toNat = x.toNat % 2 := by
    rw [BitVec.toNat_and]
    have e1 : (BitVec.ofInt 64 1).toNat = 1 := by decide
    rw [e1, Nat.and_one_is_mod]
    have e2 : (BitVec.ofInt 64 x).toNat = x.toNat := by
      rw [BitVec.toNat_ofInt]; simp; omega
    rw [e2]
  refine (congrArg (fun n : Nat => IntKind.u64.wrap (n : Int)) e).trans ?_
  simp [IntKind.wrap, IntKind.signed, IntKind.bits]; omega
theorem cs_has (X : BitVec 256) (b : Nat) (hb : b < 256) (r : Bool) (hr : X.getLsbD b = r) (w : World) :
    Calls Try.prog 47 #[Cs.sv X, .int .u8 b] w fun e w' => e = .returned (.bool r) ∧ Below w.heap.size w w' := by
  obtain ⟨i, hi⟩ : ∃ i, b / 64 = i := ⟨_, rfl⟩
  obtain ⟨m, hm⟩ : ∃ m, b % 64 = m := ⟨_, rfl⟩
  have q1 : (b : Int).tdiv 64 = (i : Int) := by rw [← hi]; exact tdiv_nat b 64
  have q2 : (b : Int).tmod 64 = (m : Int) := by rw [← hm]; exact tmod_nat b 64
  have i4 : i < 4 := by omega
  have m64 : m < 64 := by omega
  have hw := Cs.has_shift X b hb
  rw [hi, hm, hr] at hw
  obtain ⟨x, hx⟩ : ∃ x, Cs.wd X i = x := ⟨_, rfl⟩
  have x0 := Cs.wd_lo X i
  have x1 := Cs.wd_hi X i
  rw [hx] at x0 x1 hw
  obtain ⟨z, hz⟩ : ∃ z, x / 2 ^ m = z := ⟨_, rfl⟩
  have z0 : 0 ≤ z := by rw [← hz]; exact Int.ediv_nonneg x0 (Int.le_of_lt (Int.pow_pos (by omega)))
  have z1 : z ≤ x := by rw [← hz]; exact Int.ediv_le_self _ x0
  have ha := and_one z z0 (by omega)
  rw [hz] at hw
  rw [hw] at ha
  have hc : Hid (SB (w.alloc (.cells #[.int .u64 (Cs.wd X 0), .int .u64 (Cs.wd X 1), .int .u64 (Cs.wd X 2), .int .u64 (Cs.wd X 3)] 67)) w.heap.size X ∧ Below w.heap.size w (w.alloc (.cells #[.int .u64 (Cs.wd X 0), .int .u64 (Cs.wd X 1), .int .u64 (Cs.wd X 2), .int .u64 (Cs.wd X 3)] 67))) := Lib.hid ⟨SB.new w X, (Below.refl _ _).alloc (Nat.le_refl _) _⟩
  unfold Cs.sv
  clear hw hr hi hm hb
  go_enter Try.func47, Try.ntmps47
  go_upto_region 1 with fail
  revert hc
  generalize w.alloc (.cells #[.int .u64 (Cs.wd X 0), .int .u64 (Cs.wd X 1), .int .u64 (Cs.wd X 2), .int .u64 (Cs.wd X 3)] 67) = W
  intro hc
  have c := hc.out.1.at i4
  rw [hx] at c
  cases r
  all_goals
    simp only [Bool.false_eq_true, if_false, if_true] at ha
    go_wp2
    go_ret
    exact ⟨rfl, hc.out.2⟩
theorem SB.free {w : World} {B : Nat} {X : BitVec 256} (h : SB w B X) (i : Nat) : w.frozen? ⟨B, i, none⟩ = false := Blk.free h i
theorem SB.lt {w : World} {B : Nat} {X : BitVec 256} (h : SB w B X) : B < w.heap.size := Blk.lt h
theorem SB.bit {w : World} {B : Nat} {X : BitVec 256} (h : SB w B X) {b i : Nat} (hb : b < 256) (hi : b / 64 = i) {y : Int} (hy : Cs.wd (X ||| Cs.bitS b) i = y) : SB (w.setCell ⟨B, i, none⟩ (.int .u64 y)) B (X ||| Cs.bitS b) := by
  have k := Blk.set h i (.int .u64 y)
  rw [← hy, ← hi, Cs.set_bit X b hb] at k
  rw [← hy, ← hi]
  exact k
theorem SB.other {w : World} {B : Nat} {X : BitVec 256} (h : SB w B X) {c : Nat} (hne : B ≠ c) (i : Nat) (v : Value) : SB (w.setCell ⟨c, i, none⟩ v) B X := Blk.other h hne i v
theorem SB.store {w : World} {B : Nat} {X Y : BitVec 256} (h : SB w B X) : SB ((((w.setCell ⟨B, 0, none⟩ (.int .u64 (Cs.wd Y 0))).setCell ⟨B, 1, none⟩ (.int .u64 (Cs.wd Y 1))).setCell ⟨B, 2, none⟩ (.int .u64 (Cs.wd Y 2))).setCell ⟨B, 3, none⟩ (.int .u64 (Cs.wd Y 3))) B Y :=
  (((Blk.set h 0 _).set 1 _).set 2 _).set 3 _
theorem below_set {w W : World} (h : Below w.heap.size w W) {B : Nat} (hB : w.heap.size ≤ B) (i : Nat) (v : Value) : Below w.heap.size w (W.setCell ⟨B, i, none⟩ v) :=
  ((Chg.refl [B] W).set (b := B) (Or.inl (by simp)) i v).onto h h.size (by simpa using hB)
/-- A set stored whole. -/
theorem SB.res {w W : World} {R : Nat} {Z : BitVec 256} (h : SB W R Z) (b : Below w.heap.size w W) (hR : w.heap.size ≤ R) (Y : BitVec 256) :
    SB ((((W.setCell ⟨R, 0, none⟩ (.int .u64 (Cs.wd Y 0))).setCell ⟨R, 1, none⟩ (.int .u64 (Cs.wd Y 1))).setCell ⟨R, 2, none⟩ (.int .u64 (Cs.wd Y 2))).setCell ⟨R, 3, none⟩ (.int .u64 (Cs.wd Y 3))) R Y ∧
    Below w.heap.size w ((((W.setCell ⟨R, 0, none⟩ (.int .u64 (Cs.wd Y 0))).setCell ⟨R, 1, none⟩ (.int .u64 (Cs.wd Y 1))).setCell ⟨R, 2, none⟩ (.int .u64 (Cs.wd Y 2))).setCell ⟨R, 3, none⟩ (.int .u64 (Cs.wd Y 3))) :=
  ⟨h.store, below_set (below_set (below_set (below_set b hR _ _) hR _ _) hR _ _) hR _ _⟩
theorem shl_one (m : Nat) (hm : m < 64) : IntKind.u64.wrap ((2 : Int) ^ m) = 2 ^ m := by
  have h : (2 : Int) ^ m < 2 ^ 64 := by exact_mod_cast (Nat.pow_lt_pow_right (by omega) hm : 2 ^ m < 2 ^ 64)
  have h0 : (0 : Int) ≤ 2 ^ m := Int.le_of_lt (Int.pow_pos (by omega))
  simp only [IntKind.wrap, IntKind.signed, IntKind.bits]
  simp
  omega
theorem cs_with (X : BitVec 256) (b : Nat) (hb : b < 256) (w : World) :
    Calls Try.prog 46 #[Cs.sv X, .int .u8 b] w fun e w' => e = .returned (Cs.sv (X ||| Cs.bitS b)) ∧ Below w.heap.size w w' := by
  obtain ⟨i, hi⟩ : ∃ i, b / 64 = i := ⟨_, rfl⟩
  obtain ⟨m, hm⟩ : ∃ m, b % 64 = m := ⟨_, rfl⟩
  have q1 : (b : Int).tdiv 64 = (i : Int) := by rw [← hi]; exact tdiv_nat b 64
  have q2 : (b : Int).tmod 64 = (m : Int) := by rw [← hm]; exact tmod_nat b 64
  have i4 : i < 4 := by omega
  have m64 : m < 64 := by omega
  obtain ⟨x, hx⟩ : ∃ x, Cs.wd X i = x := ⟨_, rfl⟩
  obtain ⟨y, hy⟩ : ∃ y, Cs.wd (X ||| Cs.bitS b) i = y := ⟨_, rfl⟩
  have ho : bits BinOp.or IntKind.u64 x (2 ^ m) = y := by
    rw [← hx, ← hy, ← Cs.wd_or, ← hi, ← Cs.bit_wd b hb, hm]
  have s1 := shl_one m m64
  have HI := Lib.hid (And.intro hb (And.intro hi hy))
  have hc : Hid (SB (w.alloc (.cells #[.int .u64 (Cs.wd X 0), .int .u64 (Cs.wd X 1), .int .u64 (Cs.wd X 2), .int .u64 (Cs.wd X 3)] 67)) w.heap.size X ∧ Below w.heap.size w (w.alloc (.cells #[.int .u64 (Cs.wd X 0), .int .u64 (Cs.wd X 1), .int .u64 (Cs.wd X 2), .int .u64 (Cs.wd X 3)] 67))) := Lib.hid ⟨SB.new w X, (Below.refl _ _).alloc (Nat.le_refl _) _⟩
  have hc2 : Hid (SB ((w.alloc (.cells #[.int .u64 (Cs.wd X 0), .int .u64 (Cs.wd X 1), .int .u64 (Cs.wd X 2), .int .u64 (Cs.wd X 3)] 67)).alloc (.cells #[.int .u64 0, .int .u64 0, .int .u64 0, .int .u64 0] 67)) w.heap.size X ∧ SB ((w.alloc (.cells #[.int .u64 (Cs.wd X 0), .int .u64 (Cs.wd X 1), .int .u64 (Cs.wd X 2), .int .u64 (Cs.wd X 3)] 67)).alloc (.cells #[.int .u64 0, .int .u64 0, .int .u64 0, .int .u64 0] 67)) (w.heap.size + 1) 0 ∧ Below w.heap.size w ((w.alloc (.cells #[.int .u64 (Cs.wd X 0), .int .u64 (Cs.wd X 1), .int .u64 (Cs.wd X 2), .int .u64 (Cs.wd X 3)] 67)).alloc (.cells #[.int .u64 0, .int .u64 0, .int .u64 0, .int .u64 0] 67))) :=
    Lib.hid ⟨Blk.alloc hc.out.1 _, by have := SB.zero (w.alloc (.cells #[.int .u64 (Cs.wd X 0), .int .u64 (Cs.wd X 1), .int .u64 (Cs.wd X 2), .int .u64 (Cs.wd X 3)] 67)); simpa using this, hc.out.2.alloc hc.out.2.size _⟩
  unfold Cs.sv
  clear hi hm hb hy hc
  go_enter Try.func46, Try.ntmps46
  go_upto_region 1 with fail
  revert hc2
  generalize (w.alloc (.cells #[.int .u64 (Cs.wd X 0), .int .u64 (Cs.wd X 1), .int .u64 (Cs.wd X 2), .int .u64 (Cs.wd X 3)] 67)).alloc (.cells #[.int .u64 0, .int .u64 0, .int .u64 0, .int .u64 0] 67) = W
  intro hc
  have c := hc.out.1.at i4
  have fc := hc.out.1.free i
  rw [hx] at c
  go_upto_region 2 with fail
  have hc1 : Hid (SB (W.setCell ⟨w.heap.size, i, none⟩ (.int .u64 y)) w.heap.size (X ||| Cs.bitS b) ∧ SB (W.setCell ⟨w.heap.size, i, none⟩ (.int .u64 y)) (w.heap.size + 1) 0 ∧ Below w.heap.size w (W.setCell ⟨w.heap.size, i, none⟩ (.int .u64 y))) :=
    Lib.hid ⟨hc.out.1.bit HI.out.1 HI.out.2.1 HI.out.2.2, hc.out.2.1.other (by omega) _ _, below_set hc.out.2.2 (Nat.le_refl _) _ _⟩
  clear c fc hc
  revert hc1
  generalize W.setCell ⟨w.heap.size, i, none⟩ (.int .u64 y) = W1
  intro hc
  have c0 := hc.out.1.at (i := 0) (by decide)
  have c1 := hc.out.1.at (i := 1) (by decide)
  have c2 := hc.out.1.at (i := 2) (by decide)
  have c3 := hc.out.1.at (i := 3) (by decide)
  have d0 := hc.out.2.1.at (i := 0) (by decide)
  have d1 := hc.out.2.1.at (i := 1) (by decide)
  have d2 := hc.out.2.1.at (i := 2) (by decide)
  have d3 := hc.out.2.1.at (i := 3) (by decide)
  have f0 := hc.out.2.1.free 0
  have f1 := hc.out.2.1.free 1
  have f2 := hc.out.2.1.free 2
  have f3 := hc.out.2.1.free 3
  go_wp2
  have hr := Lib.hid (hc.out.2.1.res hc.out.2.2 (by omega) (X ||| Cs.bitS b))
  clear c0 c1 c2 c3 d0 d1 d2 d3 f0 f1 f2 f3 hc
  revert hr
  generalize (((W1.setCell ⟨w.heap.size + 1, 0, none⟩ (.int .u64 (Cs.wd (X ||| Cs.bitS b) 0))).setCell ⟨w.heap.size + 1, 1, none⟩ (.int .u64 (Cs.wd (X ||| Cs.bitS b) 1))).setCell ⟨w.heap.size + 1, 2, none⟩ (.int .u64 (Cs.wd (X ||| Cs.bitS b) 2))).setCell ⟨w.heap.size + 1, 3, none⟩ (.int .u64 (Cs.wd (X ||| Cs.bitS b) 3)) = W2
  intro hr
  have c0 := hr.out.1.at (i := 0) (by decide)
  have c1 := hr.out.1.at (i := 1) (by decide)
  have c2 := hr.out.1.at (i := 2) (by decide)
  have c3 := hr.out.1.at (i := 3) (by decide)
  refine bodyPost_ret (v := .agg #[.int .u64 (Cs.wd (X ||| Cs.bitS b) 0), .int .u64 (Cs.wd (X ||| Cs.bitS b) 1), .int .u64 (Cs.wd (X ||| Cs.bitS b) 2), .int .u64 (Cs.wd (X ||| Cs.bitS b) 3)]) (by simp [results, Try.results46, go_sem, c0, c1, c2, c3]) rfl ?_
  exact ⟨rfl, hr.out.2⟩
end Go.Proofs.Ytoniipmgkoogbaa
