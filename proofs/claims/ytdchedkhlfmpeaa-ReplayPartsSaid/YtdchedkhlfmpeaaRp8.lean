/- Replay: a round with bytes that were read. -/
import Derived.Test.YtdchedkhlfmpeaaRp6
import Derived.Test.YtdchedkhlfmpeaaRm
import Derived.StillTailTactics
import Derived.Lib.SlBytesRow
import Derived.WalkKit
import Derived.ProofKit
import Derived.Handy
import Derived.WalkLawsBesides
import Derived.WalkSpells
import Derived.Lib.Hide
import Derived.Lib.SliceRun
import Derived.Deep.RegionLaw
import Derived.RegionTactic
import Derived.ChangeAlike
import Derived.WalkSmall
import Derived.Deep.QuietTactic
import Derived.BigQuiet
import Derived.OwnWalk
import Derived.Outline
import Derived.Deep.CutRange
import Derived.Deep.CutBlock
import Derived.LoopTactic
namespace Go.Proofs.Ytdchedkhlfmpeaa
open Go.ChangeShapes Go.WideShapes Go.ChangeAt Go.RowKit
set_option linter.unusedSimpArgs false
set_option linter.unusedVariables false

set_option maxRecDepth 20000 in
set_option maxHeartbeats 16000000 in
theorem rp_roundB (a : Option Addr) (cap M mb c0 B : Nat) (ck tk : Int) (i1 n1 t1 : Int) (b1 : ByteArray) (e1 p0 p1 p2 p3 p4 p5 : Int) (i2 n2 t2 : Int) (b2 : ByteArray) (e2 q0 q1 q2 q3 q4 q5 : Int) (hck : ck ≤ 9223372036854775807) (ht1 : t1 ≤ 9223372036854775807) (htk : Tk.left t1 ck = tk) (w : World) (hB : w.heap.size = B) (hcap : 2 ≤ cap) (HE : EL w a [⟨1, i1, n1, t1, b1, e1, p0, p1, p2, p3, p4, p5⟩, ⟨4, i2, n2, t2, b2, e2, q0, q1, q2, q3, q4, q5⟩]) (HM : Blk w M [.int .i64 ck, .map (some mb)] 120) (hmap : True) (hmb : mb < B) (hMm : ¬ M = mb) (hne : ∀ g ∈ rvB a, g ≠ M ∧ g ≠ mb ∧ g < B) :
    Calls Try.prog 72 #[.pointer (some ⟨M, 0, none⟩), .slice a 2 cap] w fun r w' => ∃ gA kA gB kB : Nat, r = .returned (.agg #[.int .i64 tk, .slice none 0 0, .slice (some ⟨gA, 0, none⟩) 1 kA, .slice (some ⟨gB, 0, none⟩) 1 kB, .int .i64 0, .bool false]) ∧ RM w' B (some ⟨gA, 0, none⟩) 1 kA 3 [.int .i64 i2, .string b2, .bool false] 94 ∧ RM w' B (some ⟨gB, 0, none⟩) 1 kB 4 [.int .i64 i2, .bool true, .bool false, .int .i64 0] 96 ∧ Blk w' M [.int .i64 t1, .map (some mb)] 120 ∧ Chg [M, mb] w w' := by
  have hMB : M < B := by rw [← hB]; exact HM.lt
  have H1 : Hid (Blk (w.alloc (.cells #[.int .i64 0, .slice none 0 0, .slice none 0 0, .slice none 0 0, .int .i64 0, .bool false] 92)) M [.int .i64 ck, .map (some mb)] 120 ∧ EL (w.alloc (.cells #[.int .i64 0, .slice none 0 0, .slice none 0 0, .slice none 0 0, .int .i64 0, .bool false] 92)) a [⟨1, i1, n1, t1, b1, e1, p0, p1, p2, p3, p4, p5⟩, ⟨4, i2, n2, t2, b2, e2, q0, q1, q2, q3, q4, q5⟩] ∧ Chg [M, mb] w (w.alloc (.cells #[.int .i64 0, .slice none 0 0, .slice none 0 0, .slice none 0 0, .int .i64 0, .bool false] 92)) ∧ Blk (w.alloc (.cells #[.int .i64 0, .slice none 0 0, .slice none 0 0, .slice none 0 0, .int .i64 0, .bool false] 92)) B [.int .i64 0, .slice none 0 0, .slice none 0 0, .slice none 0 0, .int .i64 0, .bool false] 92 ∧ True) := Lib.hid (by
    have kk : Chg [] w (w.alloc (.cells #[.int .i64 0, .slice none 0 0, .slice none 0 0, .slice none 0 0, .int .i64 0, .bool false] 92)) := (Chg.refl [] w).alloc _
    have b2 := Blk.newA w #[.int .i64 0, .slice none 0 0, .slice none 0 0, .slice none 0 0, .int .i64 0, .bool false] 92
    rw [hB] at b2
    exact ⟨HM.chg kk (by simp), HE.chg kk (by simp), kk.mono (by simp), b2, trivial⟩)
  have HT := Lib.hid (And.intro htk hne)
  clear HE HM hmap htk hne
  go_enter Try.func72, Try.ntmps72
  go_upto_region 1 with fail
  revert H1
  generalize (w.alloc (.cells #[.int .i64 0, .slice none 0 0, .slice none 0 0, .slice none 0 0, .int .i64 0, .bool false] 92)) = W1
  intro H1
  obtain ⟨R, hR⟩ : ∃ R, W1.heap.size = R := ⟨_, rfl⟩
  have hRB : B < R := by rw [← hR]; exact H1.out.2.2.2.1.lt
  obtain ⟨hb, ga, o, rfl, hgw, z0, z1, z2, z3, z4, z5, z6, z7, z8, z9, z10, z11⟩ := H1.out.2.1.get (j := 0) rfl
  simp only [Nat.zero_mul, Nat.add_zero, Nat.zero_add] at z0 z1 z2 z3 z4 z5 z6 z7 z8 z9 z10 z11
  have m0 := H1.out.1.cell (i := 0) rfl
  have mf := H1.out.1.free 0
  have j2 : (0 : Int) < 2 := by omega
  have nM1 : ¬ M = R := by omega
  have nM2 : ¬ R = M := by omega
  have nM3 : ¬ M = B := by omega
  have nM4 : ¬ B = M := by omega
  go_upto_region 3 with (go_at_call 93; (with_reducible refine (left_any _ _ (by omega) (by omega) _).mono ?_); rintro e w' ⟨rfl, rfl⟩; rw [HT.out.1])
  have H1b : Hid (RD w (W1.alloc (.cells #[.int .i64 tk, .slice none 0 0, .slice none 0 0, .slice none 0 0, .int .i64 0, .bool false] 92)) M mb B R ck [.int .i64 tk, .slice none 0 0, .slice none 0 0, .slice none 0 0, .int .i64 0, .bool false] (some ⟨ga, o, none⟩) [⟨1, i1, n1, t1, b1, e1, p0, p1, p2, p3, p4, p5⟩, ⟨4, i2, n2, t2, b2, e2, q0, q1, q2, q3, q4, q5⟩] ∧ True) := Lib.hid (by
    have b2 := Blk.newA W1 #[.int .i64 tk, .slice none 0 0, .slice none 0 0, .slice none 0 0, .int .i64 0, .bool false] 92
    rw [hR] at b2
    have k1 : Chg [] W1 (W1.alloc (.cells #[.int .i64 tk, .slice none 0 0, .slice none 0 0, .slice none 0 0, .int .i64 0, .bool false] 92)) := (Chg.refl [] W1).alloc _
    have hBw : w.heap.size = B := hB
    exact ⟨⟨H1.out.1.alloc _, H1.out.2.1.chg k1 (by simp), H1.out.2.2.1.trans k1 (by simp), H1.out.2.2.2.1.chg k1 (by simp), b2, hMm, by omega, by omega, by omega, by omega, by omega, by omega, fun g hg => by have := HT.out.2 g hg; exact ⟨this.1, this.2.1, by omega⟩, by omega⟩, trivial⟩)
  clear H1 z0 z1 z2 z3 z4 z5 z6 z7 z8 z9 z10 z11 hgw hb m0 mf hR
  revert H1b
  generalize (W1.alloc (.cells #[.int .i64 tk, .slice none 0 0, .slice none 0 0, .slice none 0 0, .int .i64 0, .bool false] 92)) = W1b
  intro H1b
  have m0 := H1b.out.1.1.cell (i := 0) rfl
  have mf := H1b.out.1.1.free 0
  go_upto_region 4 with fail
  have H2 : Hid ((RD w (W1b.setCell ⟨M, 0, none⟩ (.int .i64 t1)) M mb B R t1 [.int .i64 tk, .slice none 0 0, .slice none 0 0, .slice none 0 0, .int .i64 0, .bool false] (some ⟨ga, o, none⟩) [⟨1, i1, n1, t1, b1, e1, p0, p1, p2, p3, p4, p5⟩, ⟨4, i2, n2, t2, b2, e2, q0, q1, q2, q3, q4, q5⟩] ∧ True)) := Lib.hid (by
    have k2 : Chg [M] W1b (W1b.setCell ⟨M, 0, none⟩ (.int .i64 t1)) := (Chg.refl [M] _).set (Or.inl (by simp)) _ _
    obtain ⟨h1, h2, h3, h4, h5, h6, h7, h8, h9, h10, h11, h12, h13, h14⟩ := H1b.out.1
    exact ⟨⟨h1.set 0 _, h2.chg k2 (fun g hg => by simp; exact (h13 g hg).1), h3.trans k2 (by simp), h4.chg k2 (by simpa using h7), h5.chg k2 (by simpa using h8), h6, h7, h8, h9, h10, h11, h12, h13, h14⟩, trivial⟩)
  clear H1b m0 mf
  revert H2
  generalize (W1b.setCell ⟨M, 0, none⟩ (.int .i64 t1)) = W2
  intro H2
  go_wp2_with fail
  go_loopw [7, 27] (fun s7 z wr => ∃ j : Nat, s7 = .bool false ∧ z = .int .i64 j ∧ j ≤ 2 ∧ ((j ≤ 1 ∧ Hid ((RD w wr M mb B R t1 [.int .i64 tk, .slice none 0 0, .slice none 0 0, .slice none 0 0, .int .i64 0, .bool false] (some ⟨ga, o, none⟩) [⟨1, i1, n1, t1, b1, e1, p0, p1, p2, p3, p4, p5⟩, ⟨4, i2, n2, t2, b2, e2, q0, q1, q2, q3, q4, q5⟩] ∧ True))) ∨ (j = 2 ∧ Hid (∃ gA kA gB kB : Nat, RD w wr M mb B R t1 [.int .i64 tk, .slice none 0 0, .slice (some ⟨gA, 0, none⟩) 1 kA, .slice (some ⟨gB, 0, none⟩) 1 kB, .int .i64 0, .bool false] (some ⟨ga, o, none⟩) [⟨1, i1, n1, t1, b1, e1, p0, p1, p2, p3, p4, p5⟩, ⟨4, i2, n2, t2, b2, e2, q0, q1, q2, q3, q4, q5⟩] ∧ RM wr B (some ⟨gA, 0, none⟩) 1 kA 3 [.int .i64 i2, .string b2, .bool false] 94 ∧ RM wr B (some ⟨gB, 0, none⟩) 1 kB 4 [.int .i64 i2, .bool true, .bool false, .int .i64 0] 96)))) (fun _ z _ => 2 - (intOf z).toNat)
  case atStart => exact ⟨0, rfl, rfl, by omega, Or.inl ⟨by omega, H2⟩⟩
  case round =>
    clear H2
    obtain ⟨j, rfl, rfl, hj, ⟨hj1, HS⟩ | ⟨rfl, HS⟩⟩ := hrel
    · obtain rfl | rfl : j = 0 ∨ j = 1 := by omega
      · obtain ⟨hb, _, _, heq, hgw, z0, z1, z2, z3, z4, z5, z6, z7, z8, z9, z10, z11⟩ := HS.out.1.2.1.get (j := 0) rfl
        injection heq with heq
        injection heq with qq1 qq2 _
        subst qq1 qq2
        simp only [Nat.zero_mul, Nat.one_mul, Nat.add_zero, Nat.zero_add] at z0 z1 z2 z3 z4 z5 z6 z7 z8 z9 z10 z11
        have HX : Hid ((RD w (wr.alloc (.cells #[.int .i64 1, .int .i64 i1, .int .i64 n1, .int .i64 t1, .string b1, .int .i64 e1, .int .i64 p0, .int .i64 p1, .int .i64 p2, .int .i64 p3, .int .i64 p4, .int .i64 p5] 47)) M mb B R t1 [.int .i64 tk, .slice none 0 0, .slice none 0 0, .slice none 0 0, .int .i64 0, .bool false] (some ⟨ga, o, none⟩) [⟨1, i1, n1, t1, b1, e1, p0, p1, p2, p3, p4, p5⟩, ⟨4, i2, n2, t2, b2, e2, q0, q1, q2, q3, q4, q5⟩] ∧ True) ∧ Blk (wr.alloc (.cells #[.int .i64 1, .int .i64 i1, .int .i64 n1, .int .i64 t1, .string b1, .int .i64 e1, .int .i64 p0, .int .i64 p1, .int .i64 p2, .int .i64 p3, .int .i64 p4, .int .i64 p5] 47)) wr.heap.size [.int .i64 1, .int .i64 i1, .int .i64 n1, .int .i64 t1, .string b1, .int .i64 e1, .int .i64 p0, .int .i64 p1, .int .i64 p2, .int .i64 p3, .int .i64 p4, .int .i64 p5] 47) := Lib.hid ⟨⟨HS.out.1.fresh ((Chg.refl [] wr).alloc _), trivial⟩, Blk.newA wr #[.int .i64 1, .int .i64 i1, .int .i64 n1, .int .i64 t1, .string b1, .int .i64 e1, .int .i64 p0, .int .i64 p1, .int .i64 p2, .int .i64 p3, .int .i64 p4, .int .i64 p5] 47⟩
        go_upto_region 8 with fail
        clear z0 z1 z2 z3 z4 z5 z6 z7 z8 z9 z10 z11 hgw hb HS
        revert HX
        generalize (wr.alloc (.cells #[.int .i64 1, .int .i64 i1, .int .i64 n1, .int .i64 t1, .string b1, .int .i64 e1, .int .i64 p0, .int .i64 p1, .int .i64 p2, .int .i64 p3, .int .i64 p4, .int .i64 p5] 47)) = V1
        generalize wr.heap.size = X
        intro HX
        have d0 := HX.out.2.cell (i := 0) rfl
        go_upto_region 9 with fail
        obtain ⟨hb, _, _, heq, hgw, z0, z1, z2, z3, z4, z5, z6, z7, z8, z9, z10, z11⟩ := HX.out.1.1.2.1.get (j := 0) rfl
        injection heq with heq
        injection heq with qq1 qq2 _
        subst qq1 qq2
        simp only [Nat.zero_mul, Nat.add_zero, Nat.zero_add] at z0 z1 z2 z3 z4 z5 z6 z7 z8 z9 z10 z11
        have d1 := HX.out.2.cell (i := 1) rfl
        have d2 := HX.out.2.cell (i := 2) rfl
        have d3 := HX.out.2.cell (i := 3) rfl
        have d4 := HX.out.2.cell (i := 4) rfl
        have d5 := HX.out.2.cell (i := 5) rfl
        have d6 := HX.out.2.cell (i := 6) rfl
        have d7 := HX.out.2.cell (i := 7) rfl
        have d8 := HX.out.2.cell (i := 8) rfl
        have d9 := HX.out.2.cell (i := 9) rfl
        have d10 := HX.out.2.cell (i := 10) rfl
        have d11 := HX.out.2.cell (i := 11) rfl
        have mn0 : min (0 : Int) 1 = 0 := by decide
        have wz0 : IntKind.i64.wrap 0 = 0 := by decide
        go_still_tail 8, (by kernel_rfl)
        go_wp2_with (go_at_call 95; refine (rp_idle R 1 i1 n1 t1 b1 e1 p0 p1 p2 p3 p4 p5 i1 n1 t1 b1 e1 p0 p1 p2 p3 p4 p5 _).mono ?_; rintro e W5 ⟨rfl, hb5⟩; have k5 : Chg [] V1 W5 := ((Chg.refl [] V1).drew).trans (Chg.of_fresh (l := []) hb5) (by simp); have HS5 : Hid ((RD w W5 M mb B R t1 [.int .i64 tk, .slice none 0 0, .slice none 0 0, .slice none 0 0, .int .i64 0, .bool false] (some ⟨ga, o, none⟩) [⟨1, i1, n1, t1, b1, e1, p0, p1, p2, p3, p4, p5⟩, ⟨4, i2, n2, t2, b2, e2, q0, q1, q2, q3, q4, q5⟩] ∧ True)) := Lib.hid ⟨HX.out.1.1.fresh k5, trivial⟩; clear hb5 k5)
        first
          | (refine ⟨?_, ?measure⟩
             case measure => first | (simp [intOf]; done) | (simp [intOf]; omega)
             first
               | exact ⟨1, rfl, by first | rfl | go_num, by omega, Or.inl ⟨by omega, HS5⟩⟩
               | ((repeat apply Exists.intro); exact ⟨⟨1, rfl, by first | rfl | go_num, by omega, Or.inl ⟨by omega, HS5⟩⟩, rfl⟩))
          | ((repeat apply Exists.intro); exact ⟨⟨1, rfl, by first | rfl | go_num, by omega, Or.inl ⟨by omega, HS5⟩⟩, rfl⟩)
          | exact ⟨1, rfl, by first | rfl | go_num, by omega, Or.inl ⟨by omega, HS5⟩⟩

      · obtain ⟨hb, _, _, heq, hgw, z0, z1, z2, z3, z4, z5, z6, z7, z8, z9, z10, z11⟩ := HS.out.1.2.1.get (j := 1) rfl
        injection heq with heq
        injection heq with qq1 qq2 _
        subst qq1 qq2
        simp only [Nat.zero_mul, Nat.one_mul, Nat.add_zero, Nat.zero_add] at z0 z1 z2 z3 z4 z5 z6 z7 z8 z9 z10 z11
        have HX : Hid ((RD w (wr.alloc (.cells #[.int .i64 4, .int .i64 i2, .int .i64 n2, .int .i64 t2, .string b2, .int .i64 e2, .int .i64 q0, .int .i64 q1, .int .i64 q2, .int .i64 q3, .int .i64 q4, .int .i64 q5] 47)) M mb B R t1 [.int .i64 tk, .slice none 0 0, .slice none 0 0, .slice none 0 0, .int .i64 0, .bool false] (some ⟨ga, o, none⟩) [⟨1, i1, n1, t1, b1, e1, p0, p1, p2, p3, p4, p5⟩, ⟨4, i2, n2, t2, b2, e2, q0, q1, q2, q3, q4, q5⟩] ∧ True) ∧ Blk (wr.alloc (.cells #[.int .i64 4, .int .i64 i2, .int .i64 n2, .int .i64 t2, .string b2, .int .i64 e2, .int .i64 q0, .int .i64 q1, .int .i64 q2, .int .i64 q3, .int .i64 q4, .int .i64 q5] 47)) wr.heap.size [.int .i64 4, .int .i64 i2, .int .i64 n2, .int .i64 t2, .string b2, .int .i64 e2, .int .i64 q0, .int .i64 q1, .int .i64 q2, .int .i64 q3, .int .i64 q4, .int .i64 q5] 47) := Lib.hid ⟨⟨HS.out.1.fresh ((Chg.refl [] wr).alloc _), trivial⟩, Blk.newA wr #[.int .i64 4, .int .i64 i2, .int .i64 n2, .int .i64 t2, .string b2, .int .i64 e2, .int .i64 q0, .int .i64 q1, .int .i64 q2, .int .i64 q3, .int .i64 q4, .int .i64 q5] 47⟩
        go_upto_region 8 with fail
        clear z0 z1 z2 z3 z4 z5 z6 z7 z8 z9 z10 z11 hgw hb HS
        revert HX
        generalize (wr.alloc (.cells #[.int .i64 4, .int .i64 i2, .int .i64 n2, .int .i64 t2, .string b2, .int .i64 e2, .int .i64 q0, .int .i64 q1, .int .i64 q2, .int .i64 q3, .int .i64 q4, .int .i64 q5] 47)) = V1
        generalize wr.heap.size = X
        intro HX
        have d0 := HX.out.2.cell (i := 0) rfl
        go_upto_region 9 with fail
        obtain ⟨hb, _, _, heq, hgw, z0, z1, z2, z3, z4, z5, z6, z7, z8, z9, z10, z11⟩ := HX.out.1.1.2.1.get (j := 0) rfl
        injection heq with heq
        injection heq with qq1 qq2 _
        subst qq1 qq2
        simp only [Nat.zero_mul, Nat.add_zero, Nat.zero_add] at z0 z1 z2 z3 z4 z5 z6 z7 z8 z9 z10 z11
        have d1 := HX.out.2.cell (i := 1) rfl
        have d2 := HX.out.2.cell (i := 2) rfl
        have d3 := HX.out.2.cell (i := 3) rfl
        have d4 := HX.out.2.cell (i := 4) rfl
        have d5 := HX.out.2.cell (i := 5) rfl
        have d6 := HX.out.2.cell (i := 6) rfl
        have d7 := HX.out.2.cell (i := 7) rfl
        have d8 := HX.out.2.cell (i := 8) rfl
        have d9 := HX.out.2.cell (i := 9) rfl
        have d10 := HX.out.2.cell (i := 10) rfl
        have d11 := HX.out.2.cell (i := 11) rfl
        have mn1 : min (1 : Int) 1 = 1 := by decide
        have wz0 : IntKind.i64.wrap 0 = 0 := by decide
        go_still_tail 8, (by kernel_rfl)
        go_wp2_with (go_at_call 95; refine (rp_read R tk (.slice none 0 0) 1 i1 n1 t1 b1 e1 p0 p1 p2 p3 p4 p5 i2 n2 t2 b2 e2 q0 q1 q2 q3 q4 q5 _ (HX.out.1.1.2.2.2.2.1.drew)).mono ?_; rintro e W5 ⟨rfl, X5, gA, kA, gB, kB, hs5⟩; have HM : Hid (RD w W5 M mb B R t1 [.int .i64 tk, .slice none 0 0, .slice (some ⟨gA, 0, none⟩) 1 kA, .slice (some ⟨gB, 0, none⟩) 1 kB, .int .i64 0, .bool false] (some ⟨ga, o, none⟩) [⟨1, i1, n1, t1, b1, e1, p0, p1, p2, p3, p4, p5⟩, ⟨4, i2, n2, t2, b2, e2, q0, q1, q2, q3, q4, q5⟩] ∧ RM W5 B (some ⟨gA, 0, none⟩) 1 kA 3 [.int .i64 i2, .string b2, .bool false] 94 ∧ RM W5 B (some ⟨gB, 0, none⟩) 1 kB 4 [.int .i64 i2, .bool true, .bool false, .int .i64 0] 96) := Lib.hid (by
          obtain ⟨u1, u2, u3, u4, u5, u6, u7⟩ := hs5
          have hBV : B ≤ V1.drew.heap.size := Nat.le_of_lt HX.out.1.1.2.2.2.1.lt
          exact ⟨(HX.out.1.1.fresh ((Chg.refl [] V1).drew)).round u5 u1, u3.base_le hBV, u4.base_le hBV⟩); clear hs5)
        first
          | (refine ⟨?_, ?measure⟩
             case measure => first | (simp [intOf]; done) | (simp [intOf]; omega)
             first
               | exact ⟨2, rfl, by first | rfl | go_num, by omega, Or.inr ⟨rfl, Lib.hid ⟨gA, kA, gB, kB, HM.out.1, HM.out.2⟩⟩⟩
               | ((repeat apply Exists.intro); exact ⟨⟨2, rfl, by first | rfl | go_num, by omega, Or.inr ⟨rfl, Lib.hid ⟨gA, kA, gB, kB, HM.out.1, HM.out.2⟩⟩⟩, rfl⟩))
          | ((repeat apply Exists.intro); exact ⟨⟨2, rfl, by first | rfl | go_num, by omega, Or.inr ⟨rfl, Lib.hid ⟨gA, kA, gB, kB, HM.out.1, HM.out.2⟩⟩⟩, rfl⟩)
          | exact ⟨2, rfl, by first | rfl | go_num, by omega, Or.inr ⟨rfl, Lib.hid ⟨gA, kA, gB, kB, HM.out.1, HM.out.2⟩⟩⟩

    · have i1 : ¬ (2 : Int) < 2 := by omega
      obtain ⟨gA, kA, gB, kB, HS2, HS3⟩ := HS.out
      have y0 := HS2.2.2.2.2.1.cell (i := 0) rfl
      have z0 := HS2.2.2.2.1.cell (i := 0) rfl
      have fz0 := HS2.2.2.2.1.free 0
      have y1 := HS2.2.2.2.2.1.cell (i := 1) rfl
      have z1 := HS2.2.2.2.1.cell (i := 1) rfl
      have fz1 := HS2.2.2.2.1.free 1
      have y2 := HS2.2.2.2.2.1.cell (i := 2) rfl
      have z2 := HS2.2.2.2.1.cell (i := 2) rfl
      have fz2 := HS2.2.2.2.1.free 2
      have y3 := HS2.2.2.2.2.1.cell (i := 3) rfl
      have z3 := HS2.2.2.2.1.cell (i := 3) rfl
      have fz3 := HS2.2.2.2.1.free 3
      have y4 := HS2.2.2.2.2.1.cell (i := 4) rfl
      have z4 := HS2.2.2.2.1.cell (i := 4) rfl
      have fz4 := HS2.2.2.2.1.free 4
      have y5 := HS2.2.2.2.2.1.cell (i := 5) rfl
      have z5 := HS2.2.2.2.1.cell (i := 5) rfl
      have fz5 := HS2.2.2.2.1.free 5
      have ne1 : ¬ B = R := HS2.2.2.2.2.2.2.2.2.1
      have ne2 : ¬ R = B := fun e => ne1 e.symm
      have kc : Chg [B] wr ((((((wr.setCell ⟨B, 0, none⟩ (.int .i64 tk)).setCell ⟨B, 1, none⟩ (.slice none 0 0)).setCell ⟨B, 2, none⟩ (.slice (some ⟨gA, 0, none⟩) 1 kA)).setCell ⟨B, 3, none⟩ (.slice (some ⟨gB, 0, none⟩) 1 kB)).setCell ⟨B, 4, none⟩ (.int .i64 0)).setCell ⟨B, 5, none⟩ (.bool false)) := (((((((Chg.refl [B] wr).set (Or.inl (by simp)) _ _).set (Or.inl (by simp)) _ _).set (Or.inl (by simp)) _ _).set (Or.inl (by simp)) _ _).set (Or.inl (by simp)) _ _).set (Or.inl (by simp)) _ _)
      have HZ : Hid (Blk ((((((wr.setCell ⟨B, 0, none⟩ (.int .i64 tk)).setCell ⟨B, 1, none⟩ (.slice none 0 0)).setCell ⟨B, 2, none⟩ (.slice (some ⟨gA, 0, none⟩) 1 kA)).setCell ⟨B, 3, none⟩ (.slice (some ⟨gB, 0, none⟩) 1 kB)).setCell ⟨B, 4, none⟩ (.int .i64 0)).setCell ⟨B, 5, none⟩ (.bool false)) B [.int .i64 tk, .slice none 0 0, .slice (some ⟨gA, 0, none⟩) 1 kA, .slice (some ⟨gB, 0, none⟩) 1 kB, .int .i64 0, .bool false] 92 ∧ RM ((((((wr.setCell ⟨B, 0, none⟩ (.int .i64 tk)).setCell ⟨B, 1, none⟩ (.slice none 0 0)).setCell ⟨B, 2, none⟩ (.slice (some ⟨gA, 0, none⟩) 1 kA)).setCell ⟨B, 3, none⟩ (.slice (some ⟨gB, 0, none⟩) 1 kB)).setCell ⟨B, 4, none⟩ (.int .i64 0)).setCell ⟨B, 5, none⟩ (.bool false)) B (some ⟨gA, 0, none⟩) 1 kA 3 [.int .i64 i2, .string b2, .bool false] 94 ∧ RM ((((((wr.setCell ⟨B, 0, none⟩ (.int .i64 tk)).setCell ⟨B, 1, none⟩ (.slice none 0 0)).setCell ⟨B, 2, none⟩ (.slice (some ⟨gA, 0, none⟩) 1 kA)).setCell ⟨B, 3, none⟩ (.slice (some ⟨gB, 0, none⟩) 1 kB)).setCell ⟨B, 4, none⟩ (.int .i64 0)).setCell ⟨B, 5, none⟩ (.bool false)) B (some ⟨gB, 0, none⟩) 1 kB 4 [.int .i64 i2, .bool true, .bool false, .int .i64 0] 96 ∧ Blk ((((((wr.setCell ⟨B, 0, none⟩ (.int .i64 tk)).setCell ⟨B, 1, none⟩ (.slice none 0 0)).setCell ⟨B, 2, none⟩ (.slice (some ⟨gA, 0, none⟩) 1 kA)).setCell ⟨B, 3, none⟩ (.slice (some ⟨gB, 0, none⟩) 1 kB)).setCell ⟨B, 4, none⟩ (.int .i64 0)).setCell ⟨B, 5, none⟩ (.bool false)) M [.int .i64 t1, .map (some mb)] 120 ∧ Chg [M, mb] w ((((((wr.setCell ⟨B, 0, none⟩ (.int .i64 tk)).setCell ⟨B, 1, none⟩ (.slice none 0 0)).setCell ⟨B, 2, none⟩ (.slice (some ⟨gA, 0, none⟩) 1 kA)).setCell ⟨B, 3, none⟩ (.slice (some ⟨gB, 0, none⟩) 1 kB)).setCell ⟨B, 4, none⟩ (.int .i64 0)).setCell ⟨B, 5, none⟩ (.bool false))) := Lib.hid ⟨((((((HS2.2.2.2.1.set 0 _).set 1 _).set 2 _).set 3 _).set 4 _).set 5 _), rm_keep HS3.1 kc HS2.2.2.2.1 (by decide), rm_keep HS3.2 kc HS2.2.2.2.1 (by decide), HS2.1.chg kc (by simpa using fun e => HS2.2.2.2.2.2.2.1 e.symm), HS2.2.2.1.trans kc (by intro x hx; simp at hx; subst hx; exact Or.inr HS2.2.2.2.2.2.2.2.2.2.2.1)⟩
      clear kc HS HS2 HS3
      go_wp2_with fail
      clear y0 y1 y2 y3 y4 y5 z0 z1 z2 z3 z4 z5 fz0 fz1 fz2 fz3 fz4 fz5
      revert HZ
      generalize ((((((wr.setCell ⟨B, 0, none⟩ (.int .i64 tk)).setCell ⟨B, 1, none⟩ (.slice none 0 0)).setCell ⟨B, 2, none⟩ (.slice (some ⟨gA, 0, none⟩) 1 kA)).setCell ⟨B, 3, none⟩ (.slice (some ⟨gB, 0, none⟩) 1 kB)).setCell ⟨B, 4, none⟩ (.int .i64 0)).setCell ⟨B, 5, none⟩ (.bool false)) = W9
      intro HZ
      have x0 := HZ.out.1.cell (i := 0) rfl
      have x1 := HZ.out.1.cell (i := 1) rfl
      have x2 := HZ.out.1.cell (i := 2) rfl
      have x3 := HZ.out.1.cell (i := 3) rfl
      have x4 := HZ.out.1.cell (i := 4) rfl
      have x5 := HZ.out.1.cell (i := 5) rfl
      refine bodyPost_ret (v := .agg #[.int .i64 tk, .slice none 0 0, .slice (some ⟨gA, 0, none⟩) 1 kA, .slice (some ⟨gB, 0, none⟩) 1 kB, .int .i64 0, .bool false]) (by simp [results, Try.results72, go_sem, x0, x1, x2, x3, x4, x5]) rfl ?_
      exact ⟨gA, kA, gB, kB, rfl, HZ.out.2⟩

end Go.Proofs.Ytdchedkhlfmpeaa
