/- P38.2, P38.4: for every list of events (its first 18, bytes cut): what all rows are together is as the document says. No condition. ! tab si -/
import Derived.Test.YtdchedkhlfmpeaaDoorOpen
import Derived.Test.YtdchedkhlfmpeaaDoorCards
import Derived.Test.YtdchedkhlfmpeaaDoorTie
import Derived.WalkKit
import Derived.Deep.DeepHandedRow
import Derived.Shelf.Vars
import Derived.Stop.LaidErr
import Derived.Lib.LaidTab
import Derived.ProofKit
import Derived.OpenShut
import Derived.Test.YtdchedkhlfmpeaaDoorLeC
import Derived.Test.YtdchedkhlfmpeaaDoorLeC
import Derived.Test.YtdchedkhlfmpeaaDoorLeC
import Derived.Test.YtdchedkhlfmpeaaDoorLeC
import Derived.Test.YtdchedkhlfmpeaaDoorClass
namespace Go.Proofs.YtdchedkhlfmpeaaDoor.ledgerTotals
open Go.Joins Go.ChangeShapes Go.WideShapes Go.ChangeAt Go.RowKit Go.Deep
open Go.ChangeMaps (open_string)
set_option linter.unusedSimpArgs false
set_option linter.unusedVariables false

/-- What the law keeps: the rows, the total, what it should be. -/
structure LTS (w W : World) (r4 : Option Addr) (n c4 : Nat) (C4 : List Value) (X3 : Nat) (us : List Value) (X5 : Nat) (ts : List Value) : Prop where
  r2 : RM W w.heap.size r4 n c4 10 C4 32
  b3 : Blk W X3 us 31
  b5 : Blk W X5 ts 32
  be : Below w.heap.size w W
  lt : w.heap.size ≤ X5 ∧ X3 ≠ X5
  ne : ∀ g ∈ rvB r4, g ≠ X5
theorem LTS.chg5 {w W W' : World} {r4 : Option Addr} {n c4 : Nat} {C4 : List Value} {X3 : Nat} {us : List Value} {X5 : Nat} {ts ts' : List Value} (h : LTS w W r4 n c4 C4 X3 us X5 ts) (hb : Blk W' X5 ts' 32) (k : Chg [X5] W W') : LTS w W' r4 n c4 C4 X3 us X5 ts' :=
  ⟨h.r2.chg k (fun g hg e => h.ne g hg (List.mem_singleton.1 e)), h.b3.chg k (fun e => h.lt.2 (List.mem_singleton.1 e)), hb, h.be.trans (k.below h.be.size (by intro x hx; simp at hx; rw [hx]; exact h.lt.1)), h.lt, h.ne⟩
theorem LTS.dN {w W : World} {r4 : Option Addr} {n c4 : Nat} {C4 : List Value} {X3 : Nat} {us : List Value} {X5 : Nat} {ts : List Value} (h : LTS w W r4 n c4 C4 X3 us X5 ts) (q : Nat) : LTS w (W.drewN q) r4 n c4 C4 X3 us X5 ts :=
  h.chg5 (h.b5.drewN q) ((Chg.refl [X5] W).drewN q)
theorem LTS.st {w W : World} {r4 : Option Addr} {n c4 : Nat} {C4 : List Value} {X3 : Nat} {us : List Value} {X5 : Nat} {ts : List Value} (h : LTS w W r4 n c4 C4 X3 us X5 ts) (i : Nat) (v : Value) : LTS w (W.setCell ⟨X5, i, none⟩ v) r4 n c4 C4 X3 us X5 (ts.set i v) :=
  h.chg5 (h.b5.set i v) ((Chg.refl [X5] W).set (Or.inl (List.mem_singleton.2 rfl)) i v)
theorem LTS.below {w W W' : World} {r4 : Option Addr} {n c4 : Nat} {C4 : List Value} {X3 : Nat} {us : List Value} {X5 : Nat} {ts : List Value} (h : LTS w W r4 n c4 C4 X3 us X5 ts) (k : Below W.heap.size W W') : LTS w W' r4 n c4 C4 X3 us X5 ts :=
  ⟨h.r2.chg (l := []) (Chg.of_fresh k) (by simp), h.b3.chg (l := []) (Chg.of_fresh k) (by simp), h.b5.chg (l := []) (Chg.of_fresh k) (by simp), h.be.trans (k.mono h.be.size), h.lt, h.ne⟩
/-- The rows' cells, in a later world. -/
theorem LTS.row {w W : World} {g4 n c4 : Nat} {R : List Le.R} {X3 : Nat} {us : List Value} {X5 : Nat} {ts : List Value} (h : LTS w W (some ⟨g4, 0, none⟩) n c4 (Le.cs R) X3 us X5 ts) (hn : R.length = n) {j : Nat} {x0 x1 x2 x3 x4 x5 x6 x7 x8 x9 : Int} (hx : R[j]? = some ⟨x0, x1, x2, x3, x4, x5, x6, x7, x8, x9⟩) : g4 < W.heap.size ∧ W.cell? ⟨g4, j * 10 + 2, none⟩ = some (.int .i64 x2) ∧ W.cell? ⟨g4, j * 10 + 3, none⟩ = some (.int .i64 x3) ∧ W.cell? ⟨g4, j * 10 + 4, none⟩ = some (.int .i64 x4) ∧ W.cell? ⟨g4, j * 10 + 5, none⟩ = some (.int .i64 x5) ∧ W.cell? ⟨g4, j * 10 + 6, none⟩ = some (.int .i64 x6) ∧ W.cell? ⟨g4, j * 10 + 7, none⟩ = some (.int .i64 x7) ∧ W.cell? ⟨g4, j * 10 + 8, none⟩ = some (.int .i64 x8) ∧ W.cell? ⟨g4, j * 10 + 9, none⟩ = some (.int .i64 x9) := by
  obtain ⟨gb, eb, hg, b0, b1, b2, b3, b4, b5, b6, b7, b8, b9⟩ := Le.at10r h.r2 hn hx
  injection eb with eb
  injection eb with eb _ _
  subst eb
  exact ⟨hg, b2, b3, b4, b5, b6, b7, b8, b9⟩
set_option maxRecDepth 100000 in
set_option maxHeartbeats 32000000 in

theorem walk (a0 : Option Addr) (len0 cap0 : Nat) (z0 : List Ev) (w : World) (htab : Lib.TabIs Tryd.prog w "internal/strconv.uint64pow10" .u64 Lib.pow10Tab) (hsi : SI w) (w0 : IsEv w a0 len0 cap0 z0) :
    Calls Tryd.prog 4 #[.slice a0 len0 cap0] w fun e w' => e = .returned (.bool true) ∧ Below w.heap.size w w' := by
  have HI0 : Hid _ := Lib.hid w0
  obtain ⟨L, hL⟩ : ∃ L, fewE 18 z0 = L := ⟨_, rfl⟩
  obtain ⟨m, hm⟩ : ∃ m, L.length = m := ⟨_, rfl⟩
  have hm18 : m ≤ 18 := by rw [← hm, ← hL, fewE_len]; omega
  have HL : Hid (fewE 18 z0 = L ∧ L.length = m ∧ (∀ x ∈ L, x.ok) ∧ fewE 18 L = L ∧ (∀ x ∈ L, x.b.size ≤ 24)) := Lib.hid ⟨hL, hm, by rw [← hL]; exact fewE_ok w0.2.2.2.ok, by rw [← hL]; exact fewE_fewE 18 z0, by rw [← hL]; exact fewE_b⟩
  obtain ⟨n, hn⟩ : ∃ n, (Ev.ids L).length = n := ⟨_, rfl⟩
  have hsum : Ev.sum L ≤ 1000000 := by
    have h1 := Ev.sum_le (L := L) (B := 24) HL.out.2.2.2.2
    rw [HL.out.2.1] at h1
    omega
  have hn18 : n ≤ 18 := by
    have h1 := Ev.ids_le L
    rw [hn, HL.out.2.1] at h1
    omega
  obtain ⟨u0, u1, u2, u3, u4, u5, u6, u7, u8, u9, hu⟩ : ∃ u0 u1 u2 u3 u4 u5 u6 u7 u8 u9, Le.tot (Le.rows L) n = ⟨u0, u1, u2, u3, u4, u5, u6, u7, u8, u9⟩ := ⟨_, _, _, _, _, _, _, _, _, _, rfl⟩
  have HR : Hid ((Ev.ids L).length = n ∧ (Le.rows L).length = n) := Lib.hid ⟨hn, by unfold Le.rows; rw [List.length_map, hn]⟩
  have HU := Lib.hid hu
  have HTB := Lib.hid (And.intro htab hsi)
  clear hL hm hn hu hsum htab hsi w0
  go_enter Tryd.func4, Tryd.ntmps4
  go_upto_region 2 with (go_at_call 6; (refine (few_ev a0 len0 cap0 z0 HI0.out.1 (by have := HI0.out.2.1; have := HI0.out.2.2.1; omega) 18 (by omega) 18 rfl L HL.out.1 m HL.out.2.1 _ HI0.out.2.2.2).mono ?_); rintro r4 W1 ⟨g1, c1, rfl, q1, q2, q3⟩; have H1 : Hid (Rn W1 g1 c1 12 (evs L) 46 ∧ Below w.heap.size w W1) := Lib.hid ⟨q1, q3⟩; clear q1 q2 q3 HI0)
  go_upto_region 3 with (first
    | (go_at_call 6; (refine (few_ev (some ⟨g1, 0, none⟩) m c1 L HL.out.2.1 (by unfold maxLen; omega) 18 (by omega) 18 rfl L HL.out.2.2.2.1 m HL.out.2.1 _ (EL.of_rn H1.out.1 HL.out.2.2.1)).mono ?_); rintro r4 g2W ⟨g2, g2c, rfl, q1, q2, q3⟩; have H2 : Hid (Rn g2W g1 c1 12 (evs L) 46 ∧ Below w.heap.size w g2W) := Lib.hid ⟨H1.out.1.chg (l := []) (Chg.of_fresh q3) (by simp), H1.out.2.trans (q3.mono H1.out.2.size)⟩; have H2E := Lib.hid q1; clear q1 q2 q3 H1)
    | (go_at_call 14; (with_reducible refine (le_total (some ⟨g2, 0, none⟩) m g2c L HL.out.2.1 (by omega) HL.out.2.2.2.2 n HR.out.1 u0 u1 u2 u3 u4 u5 u6 u7 u8 u9 HU.out _ (EL.of_rn H2E.out HL.out.2.2.1)).mono ?_); rintro r7 W3 ⟨rfl, q3⟩; have H3 : Hid (Rn W3 g1 c1 12 (evs L) 46 ∧ Below w.heap.size w W3) := Lib.hid ⟨H2.out.1.chg (l := []) (Chg.of_fresh q3) (by simp), H2.out.2.trans (q3.mono H2.out.2.size)⟩; clear q3 H2E H2)
    | (go_at_call 8; (refine (rl_rows (some ⟨g1, 0, none⟩) m c1 L HL.out.2.1 (by omega) HL.out.2.2.2.2 n HR.out.1 _ (EL.of_rn H3.out.1 HL.out.2.2.1)).mono ?_); rintro r7 W4 ⟨r4, c4, rfl, q1, q3⟩; have H4 : Hid (RM W4 w.heap.size r4 n c4 10 (Le.cs (Le.rows L)) 32 ∧ Below w.heap.size w W4) := Lib.hid ⟨q1.base_le H3.out.2.size, H3.out.2.trans (q3.mono H3.out.2.size)⟩; clear q1 q3 H3))
  have H5 : Hid (RM (W4.alloc (.cells #[.int .i64 u0, .int .i64 u1, .int .i64 u2, .int .i64 u3, .int .i64 u4, .int .i64 u5, .int .i64 u6, .int .i64 u7, .int .i64 u8, .int .i64 u9] 31)) w.heap.size r4 n c4 10 (Le.cs (Le.rows L)) 32 ∧ Blk (W4.alloc (.cells #[.int .i64 u0, .int .i64 u1, .int .i64 u2, .int .i64 u3, .int .i64 u4, .int .i64 u5, .int .i64 u6, .int .i64 u7, .int .i64 u8, .int .i64 u9] 31)) W4.heap.size [.int .i64 u0, .int .i64 u1, .int .i64 u2, .int .i64 u3, .int .i64 u4, .int .i64 u5, .int .i64 u6, .int .i64 u7, .int .i64 u8, .int .i64 u9] 31 ∧ Below w.heap.size w (W4.alloc (.cells #[.int .i64 u0, .int .i64 u1, .int .i64 u2, .int .i64 u3, .int .i64 u4, .int .i64 u5, .int .i64 u6, .int .i64 u7, .int .i64 u8, .int .i64 u9] 31))) := Lib.hid ⟨H4.out.1.chg (l := []) (Chg.of_fresh ((Below.refl _ _).alloc (Nat.le_refl _) _)) (by simp), Blk.newA _ _ _, H4.out.2.alloc H4.out.2.size _⟩
  clear H4
  revert H5
  generalize (W4.alloc (.cells #[.int .i64 u0, .int .i64 u1, .int .i64 u2, .int .i64 u3, .int .i64 u4, .int .i64 u5, .int .i64 u6, .int .i64 u7, .int .i64 u8, .int .i64 u9] 31)) = W5
  generalize W4.heap.size = X3
  intro H5
  have H6 : Hid (LTS w (W5.alloc (.cells #[.int .i64 (n : Int), .int .i64 0, .int .i64 9223372036854775807, .int .i64 0, .int .i64 0, .int .i64 0, .int .i64 0, .int .i64 0, .int .i64 0, .int .i64 0] 32)) r4 n c4 (Le.cs (Le.rows L)) X3 [.int .i64 u0, .int .i64 u1, .int .i64 u2, .int .i64 u3, .int .i64 u4, .int .i64 u5, .int .i64 u6, .int .i64 u7, .int .i64 u8, .int .i64 u9] W5.heap.size [.int .i64 (n : Int), .int .i64 0, .int .i64 9223372036854775807, .int .i64 0, .int .i64 0, .int .i64 0, .int .i64 0, .int .i64 0, .int .i64 0, .int .i64 0]) := Lib.hid ⟨H5.out.1.chg (l := []) (Chg.of_fresh ((Below.refl _ _).alloc (Nat.le_refl _) _)) (by simp), H5.out.2.1.alloc _, Blk.newA _ _ _, H5.out.2.2.alloc H5.out.2.2.size _, ⟨H5.out.2.2.size, by have := H5.out.2.1.lt; omega⟩, fun g hg e => by have := (H5.out.1.lt g hg).2; omega⟩
  go_upto_region 4 with fail
  clear H5
  revert H6
  generalize (W5.alloc (.cells #[.int .i64 (n : Int), .int .i64 0, .int .i64 9223372036854775807, .int .i64 0, .int .i64 0, .int .i64 0, .int .i64 0, .int .i64 0, .int .i64 0, .int .i64 0] 32)) = W6
  generalize W5.heap.size = X5
  intro H6
  go_wp2_with fail
  go_loopw [6] (fun z wr => ∃ (j : Nat) (t0 t1 t2 t3 t4 t5 t6 t7 t8 t9 : Int), z = .int .i64 j ∧ j ≤ n ∧ Hid (LTS w wr r4 n c4 (Le.cs (Le.rows L)) X3 [.int .i64 u0, .int .i64 u1, .int .i64 u2, .int .i64 u3, .int .i64 u4, .int .i64 u5, .int .i64 u6, .int .i64 u7, .int .i64 u8, .int .i64 u9] X5 [.int .i64 t0, .int .i64 t1, .int .i64 t2, .int .i64 t3, .int .i64 t4, .int .i64 t5, .int .i64 t6, .int .i64 t7, .int .i64 t8, .int .i64 t9] ∧ Le.tot (Le.rows L) j = ⟨t0, t1, t2, t3, t4, t5, t6, t7, t8, t9⟩)) (fun z _ => n - (intOf z).toNat)
  case atStart => exact ⟨0, _, _, _, _, _, _, _, _, _, _, rfl, by omega, Lib.hid ⟨H6.out, by unfold Le.tot; rw [HR.out.2]⟩⟩
  case round =>
    obtain ⟨j, t0, t1, t2, t3, t4, t5, t6, t7, t8, t9, rfl, hj, HB0⟩ := hrel
    have HB := Lib.hid HB0.out.1
    have HTT := Lib.hid HB0.out.2
    clear HB0
    have j0 : (0 : Int) ≤ (j : Int) := by omega
    by_cases hjn : j < n
    · have i1 : (j : Int) < (n : Int) := by omega
      have w2 : IntKind.i64.wrap ((j : Int) + 1) = (j : Int) + 1 := IntWalk.i64_in _ (by omega)
      obtain ⟨⟨x0, x1, x2, x3, x4, x5, x6, x7, x8, x9⟩, hx⟩ : ∃ x, (Le.rows L)[j]? = some x := ⟨_, List.getElem?_eq_getElem (by rw [HR.out.2]; exact hjn)⟩
      have HN : Hid (Le.tot (Le.rows L) (j + 1) = ⟨t0, t1, min t2 x2, wrap64 (t3 + x3), wrap64 (t4 + x4), wrap64 (t5 + x5), wrap64 (t6 + x6), wrap64 (t7 + x7), if x8 = 0 then wrap64 (t8 + 1) else t8, max (if j = 0 then x9 else t9) x9⟩) := Lib.hid (Le.tot_succ hx HTT.out)
      obtain ⟨g4, rfl, _⟩ := Le.at10r HB.out.r2 HR.out.2 hx
      have HX := Lib.hid hx
      have HGX : Hid (¬ g4 = X5) := Lib.hid (HB.out.ne g4 (by rw [rvB_some]; simp))
      clear hx HTT
      by_cases h2 : x2 < t2
      · have A2 : Hid (min t2 x2 = x2) := Lib.hid (Int.min_eq_right (by omega))
        go_upto_region 7 with fail
        have d2 := (HB.out.row HR.out.2 HX.out).2.1
        have p2 := HB.out.b5.cell (i := 2) rfl
        go_quiet (fail)
        have HD1 : Hid (LTS w (wr.drewN nq) (some ⟨g4, 0, none⟩) n c4 (Le.cs (Le.rows L)) X3 [.int .i64 u0, .int .i64 u1, .int .i64 u2, .int .i64 u3, .int .i64 u4, .int .i64 u5, .int .i64 u6, .int .i64 u7, .int .i64 u8, .int .i64 u9] X5 [.int .i64 t0, .int .i64 t1, .int .i64 t2, .int .i64 t3, .int .i64 t4, .int .i64 t5, .int .i64 t6, .int .i64 t7, .int .i64 t8, .int .i64 t9]) := Lib.hid (HB.out.dN nq)
        clear d2 p2 HB
        revert HD1
        generalize (wr.drewN nq) = Wd1
        intro HD1
        clear h2
        have px := HD1.out.b5.cell (i := 2) rfl
        have fx := HD1.out.b5.free 2
        have d2 := (HD1.out.row HR.out.2 HX.out).2.1
        go_upto_region 9 with fail
        have HS2 : Hid (LTS w (Wd1.setCell ⟨X5, 2, none⟩ (.int .i64 x2)) (some ⟨g4, 0, none⟩) n c4 (Le.cs (Le.rows L)) X3 [.int .i64 u0, .int .i64 u1, .int .i64 u2, .int .i64 u3, .int .i64 u4, .int .i64 u5, .int .i64 u6, .int .i64 u7, .int .i64 u8, .int .i64 u9] X5 [.int .i64 t0, .int .i64 t1, .int .i64 x2, .int .i64 t3, .int .i64 t4, .int .i64 t5, .int .i64 t6, .int .i64 t7, .int .i64 t8, .int .i64 t9]) := Lib.hid (HD1.out.st 2 _)
        clear px fx d2 HD1
        revert HS2
        generalize (Wd1.setCell ⟨X5, 2, none⟩ (.int .i64 x2)) = Ws2
        intro HS2
        by_cases hjz : j = 0
        · have dz : ((j : Int) == 0) = true := by simp [hjz]
          have A9 : Hid (max (if j = 0 then x9 else t9) x9 = x9) := Lib.hid (by rw [if_pos hjz]; exact Int.max_self x9)
          go_quiet (fail)
          have HD3 : Hid (LTS w (Ws2.drewN nq) (some ⟨g4, 0, none⟩) n c4 (Le.cs (Le.rows L)) X3 [.int .i64 u0, .int .i64 u1, .int .i64 u2, .int .i64 u3, .int .i64 u4, .int .i64 u5, .int .i64 u6, .int .i64 u7, .int .i64 u8, .int .i64 u9] X5 [.int .i64 t0, .int .i64 t1, .int .i64 x2, .int .i64 t3, .int .i64 t4, .int .i64 t5, .int .i64 t6, .int .i64 t7, .int .i64 t8, .int .i64 t9]) := Lib.hid (HS2.out.dN nq)
          clear  HS2
          revert HD3
          generalize (Ws2.drewN nq) = Wd3
          intro HD3
          clear dz hjz
          have px := HD3.out.b5.cell (i := 9) rfl
          have fx := HD3.out.b5.free 9
          have d9 := (HD3.out.row HR.out.2 HX.out).2.2.2.2.2.2.2.2
          go_upto_region 11 with fail
          have HS4 : Hid (LTS w (Wd3.setCell ⟨X5, 9, none⟩ (.int .i64 x9)) (some ⟨g4, 0, none⟩) n c4 (Le.cs (Le.rows L)) X3 [.int .i64 u0, .int .i64 u1, .int .i64 u2, .int .i64 u3, .int .i64 u4, .int .i64 u5, .int .i64 u6, .int .i64 u7, .int .i64 u8, .int .i64 u9] X5 [.int .i64 t0, .int .i64 t1, .int .i64 x2, .int .i64 t3, .int .i64 t4, .int .i64 t5, .int .i64 t6, .int .i64 t7, .int .i64 t8, .int .i64 x9]) := Lib.hid (HD3.out.st 9 _)
          clear px fx d9 HD3
          revert HS4
          generalize (Wd3.setCell ⟨X5, 9, none⟩ (.int .i64 x9)) = Ws4
          intro HS4
          by_cases h8 : x8 = 0
          · have b8 : (x8 == 0) = true := by simp [h8]
            have A8 : Hid ((if x8 = 0 then wrap64 (t8 + 1) else t8) = wrap64 (t8 + 1)) := Lib.hid (if_pos h8)
            have d8 := (HS4.out.row HR.out.2 HX.out).2.2.2.2.2.2.2.1
            go_upto_region 12 with fail
            clear b8 d8 h8
            have px := HS4.out.b5.cell (i := 8) rfl
            have fx := HS4.out.b5.free 8
            go_upto_region 13 with fail
            have HS5 : Hid (LTS w (Ws4.setCell ⟨X5, 8, none⟩ (.int .i64 (wrap64 (t8 + 1)))) (some ⟨g4, 0, none⟩) n c4 (Le.cs (Le.rows L)) X3 [.int .i64 u0, .int .i64 u1, .int .i64 u2, .int .i64 u3, .int .i64 u4, .int .i64 u5, .int .i64 u6, .int .i64 u7, .int .i64 u8, .int .i64 u9] X5 [.int .i64 t0, .int .i64 t1, .int .i64 x2, .int .i64 t3, .int .i64 t4, .int .i64 t5, .int .i64 t6, .int .i64 t7, .int .i64 (wrap64 (t8 + 1)), .int .i64 x9]) := Lib.hid (HS4.out.st 8 _)
            clear px fx  HS4
            revert HS5
            generalize (Ws4.setCell ⟨X5, 8, none⟩ (.int .i64 (wrap64 (t8 + 1)))) = Ws5
            intro HS5
            go_upto_region 13 with fail
            refine lt_reg13 Ws5 X5 g4 c4 n j (t0) (t1) (x2) (t3) (t4) (t5) (t6) (t7) (wrap64 (t8 + 1)) (x9) x3 x4 x5 _ _ _ _ _ _ _ _ _ _ _ _ _ _ _ _ _ _ _ _ _ _ _ _ _ _ _ _ _ _ _ _ _ _ _ _ _ _ _ _ _ _ _ _ _ _ _ _ _ _ _ _ _ _ _ _ _ _ _ _ _ _ _ _ _ _ _ _ _ _ _ _ _ _ _ _ _ _ _ _ _ _ _ _ _ _ _ _ _ _ _ _ _ _ _ _ _ _ _ _ _ _ _ _ _ _ _ _ _ _ _ _ _ hjn (by omega) HGX.out (HS5.out.row HR.out.2 HX.out).1 HS5.out.b5 (HS5.out.row HR.out.2 HX.out).2.2.1 (HS5.out.row HR.out.2 HX.out).2.2.2.1 (HS5.out.row HR.out.2 HX.out).2.2.2.2.1 _ (fun Wa6 q1 q2 => ?_)
            have HA6 : Hid (LTS w Wa6 (some ⟨g4, 0, none⟩) n c4 (Le.cs (Le.rows L)) X3 [.int .i64 u0, .int .i64 u1, .int .i64 u2, .int .i64 u3, .int .i64 u4, .int .i64 u5, .int .i64 u6, .int .i64 u7, .int .i64 u8, .int .i64 u9] X5 [.int .i64 t0, .int .i64 t1, .int .i64 x2, .int .i64 (IntKind.i64.wrap (t3 + x3)), .int .i64 (IntKind.i64.wrap (t4 + x4)), .int .i64 (IntKind.i64.wrap (t5 + x5)), .int .i64 t6, .int .i64 t7, .int .i64 (wrap64 (t8 + 1)), .int .i64 x9]) := Lib.hid (HS5.out.chg5 q1 q2)
            clear q1 q2 HS5
            go_upto_region 14 with fail
            refine lt_reg14 Wa6 X5 g4 c4 n j (t0) (t1) (x2) (IntKind.i64.wrap (t3 + x3)) (IntKind.i64.wrap (t4 + x4)) (IntKind.i64.wrap (t5 + x5)) (t6) (t7) (wrap64 (t8 + 1)) (x9) x6 x7 _ _ _ _ _ _ _ _ _ _ _ _ _ _ _ _ _ _ _ _ _ _ _ _ _ _ _ _ _ _ _ _ _ _ _ _ _ _ _ _ _ _ _ _ _ _ _ _ _ _ _ _ _ _ _ _ _ _ _ _ _ _ _ _ _ _ _ _ _ _ _ _ _ _ _ _ _ _ _ _ _ _ _ _ _ _ _ _ _ _ _ _ _ _ _ _ _ _ _ _ _ _ _ _ _ _ _ _ _ _ _ _ _ hjn (by omega) HGX.out (HA6.out.row HR.out.2 HX.out).1 HA6.out.b5 (HA6.out.row HR.out.2 HX.out).2.2.2.2.2.1 (HA6.out.row HR.out.2 HX.out).2.2.2.2.2.2.1 _ (fun Wb6 q1 q2 => ?_)
            have HB6 : Hid (LTS w Wb6 (some ⟨g4, 0, none⟩) n c4 (Le.cs (Le.rows L)) X3 [.int .i64 u0, .int .i64 u1, .int .i64 u2, .int .i64 u3, .int .i64 u4, .int .i64 u5, .int .i64 u6, .int .i64 u7, .int .i64 u8, .int .i64 u9] X5 [.int .i64 t0, .int .i64 t1, .int .i64 x2, .int .i64 (IntKind.i64.wrap (t3 + x3)), .int .i64 (IntKind.i64.wrap (t4 + x4)), .int .i64 (IntKind.i64.wrap (t5 + x5)), .int .i64 (IntKind.i64.wrap (t6 + x6)), .int .i64 (IntKind.i64.wrap (t7 + x7)), .int .i64 (wrap64 (t8 + 1)), .int .i64 x9]) := Lib.hid (HA6.out.chg5 q1 q2)
            clear q1 q2 HA6
            go_wp2_with fail
            go_roundw
            case rel => exact ⟨j + 1, _, _, _, _, _, _, _, _, _, _, by go_num, by omega, Lib.hid ⟨HB6.out, by rw [HN.out, A2.out, A8.out, A9.out]; simp only [IntWalk.i64_left]⟩⟩
            case measure => simp [intOf]; omega
          · have b8 : (x8 == 0) = false := by simp [h8]
            have A8 : Hid ((if x8 = 0 then wrap64 (t8 + 1) else t8) = t8) := Lib.hid (if_neg h8)
            have d8 := (HS4.out.row HR.out.2 HX.out).2.2.2.2.2.2.2.1
            go_upto_region 13 with fail
            clear b8 d8 h8
            refine lt_reg13 Ws4 X5 g4 c4 n j (t0) (t1) (x2) (t3) (t4) (t5) (t6) (t7) (t8) (x9) x3 x4 x5 _ _ _ _ _ _ _ _ _ _ _ _ _ _ _ _ _ _ _ _ _ _ _ _ _ _ _ _ _ _ _ _ _ _ _ _ _ _ _ _ _ _ _ _ _ _ _ _ _ _ _ _ _ _ _ _ _ _ _ _ _ _ _ _ _ _ _ _ _ _ _ _ _ _ _ _ _ _ _ _ _ _ _ _ _ _ _ _ _ _ _ _ _ _ _ _ _ _ _ _ _ _ _ _ _ _ _ _ _ _ _ _ _ hjn (by omega) HGX.out (HS4.out.row HR.out.2 HX.out).1 HS4.out.b5 (HS4.out.row HR.out.2 HX.out).2.2.1 (HS4.out.row HR.out.2 HX.out).2.2.2.1 (HS4.out.row HR.out.2 HX.out).2.2.2.2.1 _ (fun Wa7 q1 q2 => ?_)
            have HA7 : Hid (LTS w Wa7 (some ⟨g4, 0, none⟩) n c4 (Le.cs (Le.rows L)) X3 [.int .i64 u0, .int .i64 u1, .int .i64 u2, .int .i64 u3, .int .i64 u4, .int .i64 u5, .int .i64 u6, .int .i64 u7, .int .i64 u8, .int .i64 u9] X5 [.int .i64 t0, .int .i64 t1, .int .i64 x2, .int .i64 (IntKind.i64.wrap (t3 + x3)), .int .i64 (IntKind.i64.wrap (t4 + x4)), .int .i64 (IntKind.i64.wrap (t5 + x5)), .int .i64 t6, .int .i64 t7, .int .i64 t8, .int .i64 x9]) := Lib.hid (HS4.out.chg5 q1 q2)
            clear q1 q2 HS4
            go_upto_region 14 with fail
            refine lt_reg14 Wa7 X5 g4 c4 n j (t0) (t1) (x2) (IntKind.i64.wrap (t3 + x3)) (IntKind.i64.wrap (t4 + x4)) (IntKind.i64.wrap (t5 + x5)) (t6) (t7) (t8) (x9) x6 x7 _ _ _ _ _ _ _ _ _ _ _ _ _ _ _ _ _ _ _ _ _ _ _ _ _ _ _ _ _ _ _ _ _ _ _ _ _ _ _ _ _ _ _ _ _ _ _ _ _ _ _ _ _ _ _ _ _ _ _ _ _ _ _ _ _ _ _ _ _ _ _ _ _ _ _ _ _ _ _ _ _ _ _ _ _ _ _ _ _ _ _ _ _ _ _ _ _ _ _ _ _ _ _ _ _ _ _ _ _ _ _ _ _ hjn (by omega) HGX.out (HA7.out.row HR.out.2 HX.out).1 HA7.out.b5 (HA7.out.row HR.out.2 HX.out).2.2.2.2.2.1 (HA7.out.row HR.out.2 HX.out).2.2.2.2.2.2.1 _ (fun Wb7 q1 q2 => ?_)
            have HB7 : Hid (LTS w Wb7 (some ⟨g4, 0, none⟩) n c4 (Le.cs (Le.rows L)) X3 [.int .i64 u0, .int .i64 u1, .int .i64 u2, .int .i64 u3, .int .i64 u4, .int .i64 u5, .int .i64 u6, .int .i64 u7, .int .i64 u8, .int .i64 u9] X5 [.int .i64 t0, .int .i64 t1, .int .i64 x2, .int .i64 (IntKind.i64.wrap (t3 + x3)), .int .i64 (IntKind.i64.wrap (t4 + x4)), .int .i64 (IntKind.i64.wrap (t5 + x5)), .int .i64 (IntKind.i64.wrap (t6 + x6)), .int .i64 (IntKind.i64.wrap (t7 + x7)), .int .i64 t8, .int .i64 x9]) := Lib.hid (HA7.out.chg5 q1 q2)
            clear q1 q2 HA7
            go_wp2_with fail
            go_roundw
            case rel => exact ⟨j + 1, _, _, _, _, _, _, _, _, _, _, by go_num, by omega, Lib.hid ⟨HB7.out, by rw [HN.out, A2.out, A8.out, A9.out]; simp only [IntWalk.i64_left]⟩⟩
            case measure => simp [intOf]; omega
        · have dz : ((j : Int) == 0) = false := by simp; omega
          by_cases h9 : t9 < x9
          · have A9 : Hid (max (if j = 0 then x9 else t9) x9 = x9) := Lib.hid (by rw [if_neg hjz]; exact Int.max_eq_right (by omega))
            have d9 := (HS2.out.row HR.out.2 HX.out).2.2.2.2.2.2.2.2
            have p9 := HS2.out.b5.cell (i := 9) rfl
            go_quiet (fail)
            have HD8 : Hid (LTS w (Ws2.drewN nq) (some ⟨g4, 0, none⟩) n c4 (Le.cs (Le.rows L)) X3 [.int .i64 u0, .int .i64 u1, .int .i64 u2, .int .i64 u3, .int .i64 u4, .int .i64 u5, .int .i64 u6, .int .i64 u7, .int .i64 u8, .int .i64 u9] X5 [.int .i64 t0, .int .i64 t1, .int .i64 x2, .int .i64 t3, .int .i64 t4, .int .i64 t5, .int .i64 t6, .int .i64 t7, .int .i64 t8, .int .i64 t9]) := Lib.hid (HS2.out.dN nq)
            clear d9 p9 HS2
            revert HD8
            generalize (Ws2.drewN nq) = Wd8
            intro HD8
            clear dz hjz h9
            have px := HD8.out.b5.cell (i := 9) rfl
            have fx := HD8.out.b5.free 9
            have d9 := (HD8.out.row HR.out.2 HX.out).2.2.2.2.2.2.2.2
            go_upto_region 11 with fail
            have HS9 : Hid (LTS w (Wd8.setCell ⟨X5, 9, none⟩ (.int .i64 x9)) (some ⟨g4, 0, none⟩) n c4 (Le.cs (Le.rows L)) X3 [.int .i64 u0, .int .i64 u1, .int .i64 u2, .int .i64 u3, .int .i64 u4, .int .i64 u5, .int .i64 u6, .int .i64 u7, .int .i64 u8, .int .i64 u9] X5 [.int .i64 t0, .int .i64 t1, .int .i64 x2, .int .i64 t3, .int .i64 t4, .int .i64 t5, .int .i64 t6, .int .i64 t7, .int .i64 t8, .int .i64 x9]) := Lib.hid (HD8.out.st 9 _)
            clear px fx d9 HD8
            revert HS9
            generalize (Wd8.setCell ⟨X5, 9, none⟩ (.int .i64 x9)) = Ws9
            intro HS9
            by_cases h8 : x8 = 0
            · have b8 : (x8 == 0) = true := by simp [h8]
              have A8 : Hid ((if x8 = 0 then wrap64 (t8 + 1) else t8) = wrap64 (t8 + 1)) := Lib.hid (if_pos h8)
              have d8 := (HS9.out.row HR.out.2 HX.out).2.2.2.2.2.2.2.1
              go_upto_region 12 with fail
              clear b8 d8 h8
              have px := HS9.out.b5.cell (i := 8) rfl
              have fx := HS9.out.b5.free 8
              go_upto_region 13 with fail
              have HS10 : Hid (LTS w (Ws9.setCell ⟨X5, 8, none⟩ (.int .i64 (wrap64 (t8 + 1)))) (some ⟨g4, 0, none⟩) n c4 (Le.cs (Le.rows L)) X3 [.int .i64 u0, .int .i64 u1, .int .i64 u2, .int .i64 u3, .int .i64 u4, .int .i64 u5, .int .i64 u6, .int .i64 u7, .int .i64 u8, .int .i64 u9] X5 [.int .i64 t0, .int .i64 t1, .int .i64 x2, .int .i64 t3, .int .i64 t4, .int .i64 t5, .int .i64 t6, .int .i64 t7, .int .i64 (wrap64 (t8 + 1)), .int .i64 x9]) := Lib.hid (HS9.out.st 8 _)
              clear px fx  HS9
              revert HS10
              generalize (Ws9.setCell ⟨X5, 8, none⟩ (.int .i64 (wrap64 (t8 + 1)))) = Ws10
              intro HS10
              go_upto_region 13 with fail
              refine lt_reg13 Ws10 X5 g4 c4 n j (t0) (t1) (x2) (t3) (t4) (t5) (t6) (t7) (wrap64 (t8 + 1)) (x9) x3 x4 x5 _ _ _ _ _ _ _ _ _ _ _ _ _ _ _ _ _ _ _ _ _ _ _ _ _ _ _ _ _ _ _ _ _ _ _ _ _ _ _ _ _ _ _ _ _ _ _ _ _ _ _ _ _ _ _ _ _ _ _ _ _ _ _ _ _ _ _ _ _ _ _ _ _ _ _ _ _ _ _ _ _ _ _ _ _ _ _ _ _ _ _ _ _ _ _ _ _ _ _ _ _ _ _ _ _ _ _ _ _ _ _ _ _ hjn (by omega) HGX.out (HS10.out.row HR.out.2 HX.out).1 HS10.out.b5 (HS10.out.row HR.out.2 HX.out).2.2.1 (HS10.out.row HR.out.2 HX.out).2.2.2.1 (HS10.out.row HR.out.2 HX.out).2.2.2.2.1 _ (fun Wa11 q1 q2 => ?_)
              have HA11 : Hid (LTS w Wa11 (some ⟨g4, 0, none⟩) n c4 (Le.cs (Le.rows L)) X3 [.int .i64 u0, .int .i64 u1, .int .i64 u2, .int .i64 u3, .int .i64 u4, .int .i64 u5, .int .i64 u6, .int .i64 u7, .int .i64 u8, .int .i64 u9] X5 [.int .i64 t0, .int .i64 t1, .int .i64 x2, .int .i64 (IntKind.i64.wrap (t3 + x3)), .int .i64 (IntKind.i64.wrap (t4 + x4)), .int .i64 (IntKind.i64.wrap (t5 + x5)), .int .i64 t6, .int .i64 t7, .int .i64 (wrap64 (t8 + 1)), .int .i64 x9]) := Lib.hid (HS10.out.chg5 q1 q2)
              clear q1 q2 HS10
              go_upto_region 14 with fail
              refine lt_reg14 Wa11 X5 g4 c4 n j (t0) (t1) (x2) (IntKind.i64.wrap (t3 + x3)) (IntKind.i64.wrap (t4 + x4)) (IntKind.i64.wrap (t5 + x5)) (t6) (t7) (wrap64 (t8 + 1)) (x9) x6 x7 _ _ _ _ _ _ _ _ _ _ _ _ _ _ _ _ _ _ _ _ _ _ _ _ _ _ _ _ _ _ _ _ _ _ _ _ _ _ _ _ _ _ _ _ _ _ _ _ _ _ _ _ _ _ _ _ _ _ _ _ _ _ _ _ _ _ _ _ _ _ _ _ _ _ _ _ _ _ _ _ _ _ _ _ _ _ _ _ _ _ _ _ _ _ _ _ _ _ _ _ _ _ _ _ _ _ _ _ _ _ _ _ _ hjn (by omega) HGX.out (HA11.out.row HR.out.2 HX.out).1 HA11.out.b5 (HA11.out.row HR.out.2 HX.out).2.2.2.2.2.1 (HA11.out.row HR.out.2 HX.out).2.2.2.2.2.2.1 _ (fun Wb11 q1 q2 => ?_)
              have HB11 : Hid (LTS w Wb11 (some ⟨g4, 0, none⟩) n c4 (Le.cs (Le.rows L)) X3 [.int .i64 u0, .int .i64 u1, .int .i64 u2, .int .i64 u3, .int .i64 u4, .int .i64 u5, .int .i64 u6, .int .i64 u7, .int .i64 u8, .int .i64 u9] X5 [.int .i64 t0, .int .i64 t1, .int .i64 x2, .int .i64 (IntKind.i64.wrap (t3 + x3)), .int .i64 (IntKind.i64.wrap (t4 + x4)), .int .i64 (IntKind.i64.wrap (t5 + x5)), .int .i64 (IntKind.i64.wrap (t6 + x6)), .int .i64 (IntKind.i64.wrap (t7 + x7)), .int .i64 (wrap64 (t8 + 1)), .int .i64 x9]) := Lib.hid (HA11.out.chg5 q1 q2)
              clear q1 q2 HA11
              go_wp2_with fail
              go_roundw
              case rel => exact ⟨j + 1, _, _, _, _, _, _, _, _, _, _, by go_num, by omega, Lib.hid ⟨HB11.out, by rw [HN.out, A2.out, A8.out, A9.out]; simp only [IntWalk.i64_left]⟩⟩
              case measure => simp [intOf]; omega
            · have b8 : (x8 == 0) = false := by simp [h8]
              have A8 : Hid ((if x8 = 0 then wrap64 (t8 + 1) else t8) = t8) := Lib.hid (if_neg h8)
              have d8 := (HS9.out.row HR.out.2 HX.out).2.2.2.2.2.2.2.1
              go_upto_region 13 with fail
              clear b8 d8 h8
              refine lt_reg13 Ws9 X5 g4 c4 n j (t0) (t1) (x2) (t3) (t4) (t5) (t6) (t7) (t8) (x9) x3 x4 x5 _ _ _ _ _ _ _ _ _ _ _ _ _ _ _ _ _ _ _ _ _ _ _ _ _ _ _ _ _ _ _ _ _ _ _ _ _ _ _ _ _ _ _ _ _ _ _ _ _ _ _ _ _ _ _ _ _ _ _ _ _ _ _ _ _ _ _ _ _ _ _ _ _ _ _ _ _ _ _ _ _ _ _ _ _ _ _ _ _ _ _ _ _ _ _ _ _ _ _ _ _ _ _ _ _ _ _ _ _ _ _ _ _ hjn (by omega) HGX.out (HS9.out.row HR.out.2 HX.out).1 HS9.out.b5 (HS9.out.row HR.out.2 HX.out).2.2.1 (HS9.out.row HR.out.2 HX.out).2.2.2.1 (HS9.out.row HR.out.2 HX.out).2.2.2.2.1 _ (fun Wa12 q1 q2 => ?_)
              have HA12 : Hid (LTS w Wa12 (some ⟨g4, 0, none⟩) n c4 (Le.cs (Le.rows L)) X3 [.int .i64 u0, .int .i64 u1, .int .i64 u2, .int .i64 u3, .int .i64 u4, .int .i64 u5, .int .i64 u6, .int .i64 u7, .int .i64 u8, .int .i64 u9] X5 [.int .i64 t0, .int .i64 t1, .int .i64 x2, .int .i64 (IntKind.i64.wrap (t3 + x3)), .int .i64 (IntKind.i64.wrap (t4 + x4)), .int .i64 (IntKind.i64.wrap (t5 + x5)), .int .i64 t6, .int .i64 t7, .int .i64 t8, .int .i64 x9]) := Lib.hid (HS9.out.chg5 q1 q2)
              clear q1 q2 HS9
              go_upto_region 14 with fail
              refine lt_reg14 Wa12 X5 g4 c4 n j (t0) (t1) (x2) (IntKind.i64.wrap (t3 + x3)) (IntKind.i64.wrap (t4 + x4)) (IntKind.i64.wrap (t5 + x5)) (t6) (t7) (t8) (x9) x6 x7 _ _ _ _ _ _ _ _ _ _ _ _ _ _ _ _ _ _ _ _ _ _ _ _ _ _ _ _ _ _ _ _ _ _ _ _ _ _ _ _ _ _ _ _ _ _ _ _ _ _ _ _ _ _ _ _ _ _ _ _ _ _ _ _ _ _ _ _ _ _ _ _ _ _ _ _ _ _ _ _ _ _ _ _ _ _ _ _ _ _ _ _ _ _ _ _ _ _ _ _ _ _ _ _ _ _ _ _ _ _ _ _ _ hjn (by omega) HGX.out (HA12.out.row HR.out.2 HX.out).1 HA12.out.b5 (HA12.out.row HR.out.2 HX.out).2.2.2.2.2.1 (HA12.out.row HR.out.2 HX.out).2.2.2.2.2.2.1 _ (fun Wb12 q1 q2 => ?_)
              have HB12 : Hid (LTS w Wb12 (some ⟨g4, 0, none⟩) n c4 (Le.cs (Le.rows L)) X3 [.int .i64 u0, .int .i64 u1, .int .i64 u2, .int .i64 u3, .int .i64 u4, .int .i64 u5, .int .i64 u6, .int .i64 u7, .int .i64 u8, .int .i64 u9] X5 [.int .i64 t0, .int .i64 t1, .int .i64 x2, .int .i64 (IntKind.i64.wrap (t3 + x3)), .int .i64 (IntKind.i64.wrap (t4 + x4)), .int .i64 (IntKind.i64.wrap (t5 + x5)), .int .i64 (IntKind.i64.wrap (t6 + x6)), .int .i64 (IntKind.i64.wrap (t7 + x7)), .int .i64 t8, .int .i64 x9]) := Lib.hid (HA12.out.chg5 q1 q2)
              clear q1 q2 HA12
              go_wp2_with fail
              go_roundw
              case rel => exact ⟨j + 1, _, _, _, _, _, _, _, _, _, _, by go_num, by omega, Lib.hid ⟨HB12.out, by rw [HN.out, A2.out, A8.out, A9.out]; simp only [IntWalk.i64_left]⟩⟩
              case measure => simp [intOf]; omega
          · have A9 : Hid (max (if j = 0 then x9 else t9) x9 = t9) := Lib.hid (by rw [if_neg hjz]; exact Int.max_eq_left (by omega))
            have d9 := (HS2.out.row HR.out.2 HX.out).2.2.2.2.2.2.2.2
            have p9 := HS2.out.b5.cell (i := 9) rfl
            go_quiet (fail)
            have HD13 : Hid (LTS w (Ws2.drewN nq) (some ⟨g4, 0, none⟩) n c4 (Le.cs (Le.rows L)) X3 [.int .i64 u0, .int .i64 u1, .int .i64 u2, .int .i64 u3, .int .i64 u4, .int .i64 u5, .int .i64 u6, .int .i64 u7, .int .i64 u8, .int .i64 u9] X5 [.int .i64 t0, .int .i64 t1, .int .i64 x2, .int .i64 t3, .int .i64 t4, .int .i64 t5, .int .i64 t6, .int .i64 t7, .int .i64 t8, .int .i64 t9]) := Lib.hid (HS2.out.dN nq)
            clear d9 p9 HS2
            revert HD13
            generalize (Ws2.drewN nq) = Wd13
            intro HD13
            clear dz hjz h9
            go_upto_region 11 with fail
            by_cases h8 : x8 = 0
            · have b8 : (x8 == 0) = true := by simp [h8]
              have A8 : Hid ((if x8 = 0 then wrap64 (t8 + 1) else t8) = wrap64 (t8 + 1)) := Lib.hid (if_pos h8)
              have d8 := (HD13.out.row HR.out.2 HX.out).2.2.2.2.2.2.2.1
              go_upto_region 12 with fail
              clear b8 d8 h8
              have px := HD13.out.b5.cell (i := 8) rfl
              have fx := HD13.out.b5.free 8
              go_upto_region 13 with fail
              have HS14 : Hid (LTS w (Wd13.setCell ⟨X5, 8, none⟩ (.int .i64 (wrap64 (t8 + 1)))) (some ⟨g4, 0, none⟩) n c4 (Le.cs (Le.rows L)) X3 [.int .i64 u0, .int .i64 u1, .int .i64 u2, .int .i64 u3, .int .i64 u4, .int .i64 u5, .int .i64 u6, .int .i64 u7, .int .i64 u8, .int .i64 u9] X5 [.int .i64 t0, .int .i64 t1, .int .i64 x2, .int .i64 t3, .int .i64 t4, .int .i64 t5, .int .i64 t6, .int .i64 t7, .int .i64 (wrap64 (t8 + 1)), .int .i64 t9]) := Lib.hid (HD13.out.st 8 _)
              clear px fx  HD13
              revert HS14
              generalize (Wd13.setCell ⟨X5, 8, none⟩ (.int .i64 (wrap64 (t8 + 1)))) = Ws14
              intro HS14
              go_upto_region 13 with fail
              refine lt_reg13 Ws14 X5 g4 c4 n j (t0) (t1) (x2) (t3) (t4) (t5) (t6) (t7) (wrap64 (t8 + 1)) (t9) x3 x4 x5 _ _ _ _ _ _ _ _ _ _ _ _ _ _ _ _ _ _ _ _ _ _ _ _ _ _ _ _ _ _ _ _ _ _ _ _ _ _ _ _ _ _ _ _ _ _ _ _ _ _ _ _ _ _ _ _ _ _ _ _ _ _ _ _ _ _ _ _ _ _ _ _ _ _ _ _ _ _ _ _ _ _ _ _ _ _ _ _ _ _ _ _ _ _ _ _ _ _ _ _ _ _ _ _ _ _ _ _ _ _ _ _ _ hjn (by omega) HGX.out (HS14.out.row HR.out.2 HX.out).1 HS14.out.b5 (HS14.out.row HR.out.2 HX.out).2.2.1 (HS14.out.row HR.out.2 HX.out).2.2.2.1 (HS14.out.row HR.out.2 HX.out).2.2.2.2.1 _ (fun Wa15 q1 q2 => ?_)
              have HA15 : Hid (LTS w Wa15 (some ⟨g4, 0, none⟩) n c4 (Le.cs (Le.rows L)) X3 [.int .i64 u0, .int .i64 u1, .int .i64 u2, .int .i64 u3, .int .i64 u4, .int .i64 u5, .int .i64 u6, .int .i64 u7, .int .i64 u8, .int .i64 u9] X5 [.int .i64 t0, .int .i64 t1, .int .i64 x2, .int .i64 (IntKind.i64.wrap (t3 + x3)), .int .i64 (IntKind.i64.wrap (t4 + x4)), .int .i64 (IntKind.i64.wrap (t5 + x5)), .int .i64 t6, .int .i64 t7, .int .i64 (wrap64 (t8 + 1)), .int .i64 t9]) := Lib.hid (HS14.out.chg5 q1 q2)
              clear q1 q2 HS14
              go_upto_region 14 with fail
              refine lt_reg14 Wa15 X5 g4 c4 n j (t0) (t1) (x2) (IntKind.i64.wrap (t3 + x3)) (IntKind.i64.wrap (t4 + x4)) (IntKind.i64.wrap (t5 + x5)) (t6) (t7) (wrap64 (t8 + 1)) (t9) x6 x7 _ _ _ _ _ _ _ _ _ _ _ _ _ _ _ _ _ _ _ _ _ _ _ _ _ _ _ _ _ _ _ _ _ _ _ _ _ _ _ _ _ _ _ _ _ _ _ _ _ _ _ _ _ _ _ _ _ _ _ _ _ _ _ _ _ _ _ _ _ _ _ _ _ _ _ _ _ _ _ _ _ _ _ _ _ _ _ _ _ _ _ _ _ _ _ _ _ _ _ _ _ _ _ _ _ _ _ _ _ _ _ _ _ hjn (by omega) HGX.out (HA15.out.row HR.out.2 HX.out).1 HA15.out.b5 (HA15.out.row HR.out.2 HX.out).2.2.2.2.2.1 (HA15.out.row HR.out.2 HX.out).2.2.2.2.2.2.1 _ (fun Wb15 q1 q2 => ?_)
              have HB15 : Hid (LTS w Wb15 (some ⟨g4, 0, none⟩) n c4 (Le.cs (Le.rows L)) X3 [.int .i64 u0, .int .i64 u1, .int .i64 u2, .int .i64 u3, .int .i64 u4, .int .i64 u5, .int .i64 u6, .int .i64 u7, .int .i64 u8, .int .i64 u9] X5 [.int .i64 t0, .int .i64 t1, .int .i64 x2, .int .i64 (IntKind.i64.wrap (t3 + x3)), .int .i64 (IntKind.i64.wrap (t4 + x4)), .int .i64 (IntKind.i64.wrap (t5 + x5)), .int .i64 (IntKind.i64.wrap (t6 + x6)), .int .i64 (IntKind.i64.wrap (t7 + x7)), .int .i64 (wrap64 (t8 + 1)), .int .i64 t9]) := Lib.hid (HA15.out.chg5 q1 q2)
              clear q1 q2 HA15
              go_wp2_with fail
              go_roundw
              case rel => exact ⟨j + 1, _, _, _, _, _, _, _, _, _, _, by go_num, by omega, Lib.hid ⟨HB15.out, by rw [HN.out, A2.out, A8.out, A9.out]; simp only [IntWalk.i64_left]⟩⟩
              case measure => simp [intOf]; omega
            · have b8 : (x8 == 0) = false := by simp [h8]
              have A8 : Hid ((if x8 = 0 then wrap64 (t8 + 1) else t8) = t8) := Lib.hid (if_neg h8)
              have d8 := (HD13.out.row HR.out.2 HX.out).2.2.2.2.2.2.2.1
              go_upto_region 13 with fail
              clear b8 d8 h8
              refine lt_reg13 Wd13 X5 g4 c4 n j (t0) (t1) (x2) (t3) (t4) (t5) (t6) (t7) (t8) (t9) x3 x4 x5 _ _ _ _ _ _ _ _ _ _ _ _ _ _ _ _ _ _ _ _ _ _ _ _ _ _ _ _ _ _ _ _ _ _ _ _ _ _ _ _ _ _ _ _ _ _ _ _ _ _ _ _ _ _ _ _ _ _ _ _ _ _ _ _ _ _ _ _ _ _ _ _ _ _ _ _ _ _ _ _ _ _ _ _ _ _ _ _ _ _ _ _ _ _ _ _ _ _ _ _ _ _ _ _ _ _ _ _ _ _ _ _ _ hjn (by omega) HGX.out (HD13.out.row HR.out.2 HX.out).1 HD13.out.b5 (HD13.out.row HR.out.2 HX.out).2.2.1 (HD13.out.row HR.out.2 HX.out).2.2.2.1 (HD13.out.row HR.out.2 HX.out).2.2.2.2.1 _ (fun Wa16 q1 q2 => ?_)
              have HA16 : Hid (LTS w Wa16 (some ⟨g4, 0, none⟩) n c4 (Le.cs (Le.rows L)) X3 [.int .i64 u0, .int .i64 u1, .int .i64 u2, .int .i64 u3, .int .i64 u4, .int .i64 u5, .int .i64 u6, .int .i64 u7, .int .i64 u8, .int .i64 u9] X5 [.int .i64 t0, .int .i64 t1, .int .i64 x2, .int .i64 (IntKind.i64.wrap (t3 + x3)), .int .i64 (IntKind.i64.wrap (t4 + x4)), .int .i64 (IntKind.i64.wrap (t5 + x5)), .int .i64 t6, .int .i64 t7, .int .i64 t8, .int .i64 t9]) := Lib.hid (HD13.out.chg5 q1 q2)
              clear q1 q2 HD13
              go_upto_region 14 with fail
              refine lt_reg14 Wa16 X5 g4 c4 n j (t0) (t1) (x2) (IntKind.i64.wrap (t3 + x3)) (IntKind.i64.wrap (t4 + x4)) (IntKind.i64.wrap (t5 + x5)) (t6) (t7) (t8) (t9) x6 x7 _ _ _ _ _ _ _ _ _ _ _ _ _ _ _ _ _ _ _ _ _ _ _ _ _ _ _ _ _ _ _ _ _ _ _ _ _ _ _ _ _ _ _ _ _ _ _ _ _ _ _ _ _ _ _ _ _ _ _ _ _ _ _ _ _ _ _ _ _ _ _ _ _ _ _ _ _ _ _ _ _ _ _ _ _ _ _ _ _ _ _ _ _ _ _ _ _ _ _ _ _ _ _ _ _ _ _ _ _ _ _ _ _ hjn (by omega) HGX.out (HA16.out.row HR.out.2 HX.out).1 HA16.out.b5 (HA16.out.row HR.out.2 HX.out).2.2.2.2.2.1 (HA16.out.row HR.out.2 HX.out).2.2.2.2.2.2.1 _ (fun Wb16 q1 q2 => ?_)
              have HB16 : Hid (LTS w Wb16 (some ⟨g4, 0, none⟩) n c4 (Le.cs (Le.rows L)) X3 [.int .i64 u0, .int .i64 u1, .int .i64 u2, .int .i64 u3, .int .i64 u4, .int .i64 u5, .int .i64 u6, .int .i64 u7, .int .i64 u8, .int .i64 u9] X5 [.int .i64 t0, .int .i64 t1, .int .i64 x2, .int .i64 (IntKind.i64.wrap (t3 + x3)), .int .i64 (IntKind.i64.wrap (t4 + x4)), .int .i64 (IntKind.i64.wrap (t5 + x5)), .int .i64 (IntKind.i64.wrap (t6 + x6)), .int .i64 (IntKind.i64.wrap (t7 + x7)), .int .i64 t8, .int .i64 t9]) := Lib.hid (HA16.out.chg5 q1 q2)
              clear q1 q2 HA16
              go_wp2_with fail
              go_roundw
              case rel => exact ⟨j + 1, _, _, _, _, _, _, _, _, _, _, by go_num, by omega, Lib.hid ⟨HB16.out, by rw [HN.out, A2.out, A8.out, A9.out]; simp only [IntWalk.i64_left]⟩⟩
              case measure => simp [intOf]; omega
      · have A2 : Hid (min t2 x2 = t2) := Lib.hid (Int.min_eq_left (by omega))
        go_upto_region 7 with fail
        have d2 := (HB.out.row HR.out.2 HX.out).2.1
        have p2 := HB.out.b5.cell (i := 2) rfl
        go_quiet (fail)
        have HD17 : Hid (LTS w (wr.drewN nq) (some ⟨g4, 0, none⟩) n c4 (Le.cs (Le.rows L)) X3 [.int .i64 u0, .int .i64 u1, .int .i64 u2, .int .i64 u3, .int .i64 u4, .int .i64 u5, .int .i64 u6, .int .i64 u7, .int .i64 u8, .int .i64 u9] X5 [.int .i64 t0, .int .i64 t1, .int .i64 t2, .int .i64 t3, .int .i64 t4, .int .i64 t5, .int .i64 t6, .int .i64 t7, .int .i64 t8, .int .i64 t9]) := Lib.hid (HB.out.dN nq)
        clear d2 p2 HB
        revert HD17
        generalize (wr.drewN nq) = Wd17
        intro HD17
        clear h2
        go_upto_region 9 with fail
        by_cases hjz : j = 0
        · have dz : ((j : Int) == 0) = true := by simp [hjz]
          have A9 : Hid (max (if j = 0 then x9 else t9) x9 = x9) := Lib.hid (by rw [if_pos hjz]; exact Int.max_self x9)
          go_quiet (fail)
          have HD18 : Hid (LTS w (Wd17.drewN nq) (some ⟨g4, 0, none⟩) n c4 (Le.cs (Le.rows L)) X3 [.int .i64 u0, .int .i64 u1, .int .i64 u2, .int .i64 u3, .int .i64 u4, .int .i64 u5, .int .i64 u6, .int .i64 u7, .int .i64 u8, .int .i64 u9] X5 [.int .i64 t0, .int .i64 t1, .int .i64 t2, .int .i64 t3, .int .i64 t4, .int .i64 t5, .int .i64 t6, .int .i64 t7, .int .i64 t8, .int .i64 t9]) := Lib.hid (HD17.out.dN nq)
          clear  HD17
          revert HD18
          generalize (Wd17.drewN nq) = Wd18
          intro HD18
          clear dz hjz
          have px := HD18.out.b5.cell (i := 9) rfl
          have fx := HD18.out.b5.free 9
          have d9 := (HD18.out.row HR.out.2 HX.out).2.2.2.2.2.2.2.2
          go_upto_region 11 with fail
          have HS19 : Hid (LTS w (Wd18.setCell ⟨X5, 9, none⟩ (.int .i64 x9)) (some ⟨g4, 0, none⟩) n c4 (Le.cs (Le.rows L)) X3 [.int .i64 u0, .int .i64 u1, .int .i64 u2, .int .i64 u3, .int .i64 u4, .int .i64 u5, .int .i64 u6, .int .i64 u7, .int .i64 u8, .int .i64 u9] X5 [.int .i64 t0, .int .i64 t1, .int .i64 t2, .int .i64 t3, .int .i64 t4, .int .i64 t5, .int .i64 t6, .int .i64 t7, .int .i64 t8, .int .i64 x9]) := Lib.hid (HD18.out.st 9 _)
          clear px fx d9 HD18
          revert HS19
          generalize (Wd18.setCell ⟨X5, 9, none⟩ (.int .i64 x9)) = Ws19
          intro HS19
          by_cases h8 : x8 = 0
          · have b8 : (x8 == 0) = true := by simp [h8]
            have A8 : Hid ((if x8 = 0 then wrap64 (t8 + 1) else t8) = wrap64 (t8 + 1)) := Lib.hid (if_pos h8)
            have d8 := (HS19.out.row HR.out.2 HX.out).2.2.2.2.2.2.2.1
            go_upto_region 12 with fail
            clear b8 d8 h8
            have px := HS19.out.b5.cell (i := 8) rfl
            have fx := HS19.out.b5.free 8
            go_upto_region 13 with fail
            have HS20 : Hid (LTS w (Ws19.setCell ⟨X5, 8, none⟩ (.int .i64 (wrap64 (t8 + 1)))) (some ⟨g4, 0, none⟩) n c4 (Le.cs (Le.rows L)) X3 [.int .i64 u0, .int .i64 u1, .int .i64 u2, .int .i64 u3, .int .i64 u4, .int .i64 u5, .int .i64 u6, .int .i64 u7, .int .i64 u8, .int .i64 u9] X5 [.int .i64 t0, .int .i64 t1, .int .i64 t2, .int .i64 t3, .int .i64 t4, .int .i64 t5, .int .i64 t6, .int .i64 t7, .int .i64 (wrap64 (t8 + 1)), .int .i64 x9]) := Lib.hid (HS19.out.st 8 _)
            clear px fx  HS19
            revert HS20
            generalize (Ws19.setCell ⟨X5, 8, none⟩ (.int .i64 (wrap64 (t8 + 1)))) = Ws20
            intro HS20
            go_upto_region 13 with fail
            refine lt_reg13 Ws20 X5 g4 c4 n j (t0) (t1) (t2) (t3) (t4) (t5) (t6) (t7) (wrap64 (t8 + 1)) (x9) x3 x4 x5 _ _ _ _ _ _ _ _ _ _ _ _ _ _ _ _ _ _ _ _ _ _ _ _ _ _ _ _ _ _ _ _ _ _ _ _ _ _ _ _ _ _ _ _ _ _ _ _ _ _ _ _ _ _ _ _ _ _ _ _ _ _ _ _ _ _ _ _ _ _ _ _ _ _ _ _ _ _ _ _ _ _ _ _ _ _ _ _ _ _ _ _ _ _ _ _ _ _ _ _ _ _ _ _ _ _ _ _ _ _ _ _ _ hjn (by omega) HGX.out (HS20.out.row HR.out.2 HX.out).1 HS20.out.b5 (HS20.out.row HR.out.2 HX.out).2.2.1 (HS20.out.row HR.out.2 HX.out).2.2.2.1 (HS20.out.row HR.out.2 HX.out).2.2.2.2.1 _ (fun Wa21 q1 q2 => ?_)
            have HA21 : Hid (LTS w Wa21 (some ⟨g4, 0, none⟩) n c4 (Le.cs (Le.rows L)) X3 [.int .i64 u0, .int .i64 u1, .int .i64 u2, .int .i64 u3, .int .i64 u4, .int .i64 u5, .int .i64 u6, .int .i64 u7, .int .i64 u8, .int .i64 u9] X5 [.int .i64 t0, .int .i64 t1, .int .i64 t2, .int .i64 (IntKind.i64.wrap (t3 + x3)), .int .i64 (IntKind.i64.wrap (t4 + x4)), .int .i64 (IntKind.i64.wrap (t5 + x5)), .int .i64 t6, .int .i64 t7, .int .i64 (wrap64 (t8 + 1)), .int .i64 x9]) := Lib.hid (HS20.out.chg5 q1 q2)
            clear q1 q2 HS20
            go_upto_region 14 with fail
            refine lt_reg14 Wa21 X5 g4 c4 n j (t0) (t1) (t2) (IntKind.i64.wrap (t3 + x3)) (IntKind.i64.wrap (t4 + x4)) (IntKind.i64.wrap (t5 + x5)) (t6) (t7) (wrap64 (t8 + 1)) (x9) x6 x7 _ _ _ _ _ _ _ _ _ _ _ _ _ _ _ _ _ _ _ _ _ _ _ _ _ _ _ _ _ _ _ _ _ _ _ _ _ _ _ _ _ _ _ _ _ _ _ _ _ _ _ _ _ _ _ _ _ _ _ _ _ _ _ _ _ _ _ _ _ _ _ _ _ _ _ _ _ _ _ _ _ _ _ _ _ _ _ _ _ _ _ _ _ _ _ _ _ _ _ _ _ _ _ _ _ _ _ _ _ _ _ _ _ hjn (by omega) HGX.out (HA21.out.row HR.out.2 HX.out).1 HA21.out.b5 (HA21.out.row HR.out.2 HX.out).2.2.2.2.2.1 (HA21.out.row HR.out.2 HX.out).2.2.2.2.2.2.1 _ (fun Wb21 q1 q2 => ?_)
            have HB21 : Hid (LTS w Wb21 (some ⟨g4, 0, none⟩) n c4 (Le.cs (Le.rows L)) X3 [.int .i64 u0, .int .i64 u1, .int .i64 u2, .int .i64 u3, .int .i64 u4, .int .i64 u5, .int .i64 u6, .int .i64 u7, .int .i64 u8, .int .i64 u9] X5 [.int .i64 t0, .int .i64 t1, .int .i64 t2, .int .i64 (IntKind.i64.wrap (t3 + x3)), .int .i64 (IntKind.i64.wrap (t4 + x4)), .int .i64 (IntKind.i64.wrap (t5 + x5)), .int .i64 (IntKind.i64.wrap (t6 + x6)), .int .i64 (IntKind.i64.wrap (t7 + x7)), .int .i64 (wrap64 (t8 + 1)), .int .i64 x9]) := Lib.hid (HA21.out.chg5 q1 q2)
            clear q1 q2 HA21
            go_wp2_with fail
            go_roundw
            case rel => exact ⟨j + 1, _, _, _, _, _, _, _, _, _, _, by go_num, by omega, Lib.hid ⟨HB21.out, by rw [HN.out, A2.out, A8.out, A9.out]; simp only [IntWalk.i64_left]⟩⟩
            case measure => simp [intOf]; omega
          · have b8 : (x8 == 0) = false := by simp [h8]
            have A8 : Hid ((if x8 = 0 then wrap64 (t8 + 1) else t8) = t8) := Lib.hid (if_neg h8)
            have d8 := (HS19.out.row HR.out.2 HX.out).2.2.2.2.2.2.2.1
            go_upto_region 13 with fail
            clear b8 d8 h8
            refine lt_reg13 Ws19 X5 g4 c4 n j (t0) (t1) (t2) (t3) (t4) (t5) (t6) (t7) (t8) (x9) x3 x4 x5 _ _ _ _ _ _ _ _ _ _ _ _ _ _ _ _ _ _ _ _ _ _ _ _ _ _ _ _ _ _ _ _ _ _ _ _ _ _ _ _ _ _ _ _ _ _ _ _ _ _ _ _ _ _ _ _ _ _ _ _ _ _ _ _ _ _ _ _ _ _ _ _ _ _ _ _ _ _ _ _ _ _ _ _ _ _ _ _ _ _ _ _ _ _ _ _ _ _ _ _ _ _ _ _ _ _ _ _ _ _ _ _ _ hjn (by omega) HGX.out (HS19.out.row HR.out.2 HX.out).1 HS19.out.b5 (HS19.out.row HR.out.2 HX.out).2.2.1 (HS19.out.row HR.out.2 HX.out).2.2.2.1 (HS19.out.row HR.out.2 HX.out).2.2.2.2.1 _ (fun Wa22 q1 q2 => ?_)
            have HA22 : Hid (LTS w Wa22 (some ⟨g4, 0, none⟩) n c4 (Le.cs (Le.rows L)) X3 [.int .i64 u0, .int .i64 u1, .int .i64 u2, .int .i64 u3, .int .i64 u4, .int .i64 u5, .int .i64 u6, .int .i64 u7, .int .i64 u8, .int .i64 u9] X5 [.int .i64 t0, .int .i64 t1, .int .i64 t2, .int .i64 (IntKind.i64.wrap (t3 + x3)), .int .i64 (IntKind.i64.wrap (t4 + x4)), .int .i64 (IntKind.i64.wrap (t5 + x5)), .int .i64 t6, .int .i64 t7, .int .i64 t8, .int .i64 x9]) := Lib.hid (HS19.out.chg5 q1 q2)
            clear q1 q2 HS19
            go_upto_region 14 with fail
            refine lt_reg14 Wa22 X5 g4 c4 n j (t0) (t1) (t2) (IntKind.i64.wrap (t3 + x3)) (IntKind.i64.wrap (t4 + x4)) (IntKind.i64.wrap (t5 + x5)) (t6) (t7) (t8) (x9) x6 x7 _ _ _ _ _ _ _ _ _ _ _ _ _ _ _ _ _ _ _ _ _ _ _ _ _ _ _ _ _ _ _ _ _ _ _ _ _ _ _ _ _ _ _ _ _ _ _ _ _ _ _ _ _ _ _ _ _ _ _ _ _ _ _ _ _ _ _ _ _ _ _ _ _ _ _ _ _ _ _ _ _ _ _ _ _ _ _ _ _ _ _ _ _ _ _ _ _ _ _ _ _ _ _ _ _ _ _ _ _ _ _ _ _ hjn (by omega) HGX.out (HA22.out.row HR.out.2 HX.out).1 HA22.out.b5 (HA22.out.row HR.out.2 HX.out).2.2.2.2.2.1 (HA22.out.row HR.out.2 HX.out).2.2.2.2.2.2.1 _ (fun Wb22 q1 q2 => ?_)
            have HB22 : Hid (LTS w Wb22 (some ⟨g4, 0, none⟩) n c4 (Le.cs (Le.rows L)) X3 [.int .i64 u0, .int .i64 u1, .int .i64 u2, .int .i64 u3, .int .i64 u4, .int .i64 u5, .int .i64 u6, .int .i64 u7, .int .i64 u8, .int .i64 u9] X5 [.int .i64 t0, .int .i64 t1, .int .i64 t2, .int .i64 (IntKind.i64.wrap (t3 + x3)), .int .i64 (IntKind.i64.wrap (t4 + x4)), .int .i64 (IntKind.i64.wrap (t5 + x5)), .int .i64 (IntKind.i64.wrap (t6 + x6)), .int .i64 (IntKind.i64.wrap (t7 + x7)), .int .i64 t8, .int .i64 x9]) := Lib.hid (HA22.out.chg5 q1 q2)
            clear q1 q2 HA22
            go_wp2_with fail
            go_roundw
            case rel => exact ⟨j + 1, _, _, _, _, _, _, _, _, _, _, by go_num, by omega, Lib.hid ⟨HB22.out, by rw [HN.out, A2.out, A8.out, A9.out]; simp only [IntWalk.i64_left]⟩⟩
            case measure => simp [intOf]; omega
        · have dz : ((j : Int) == 0) = false := by simp; omega
          by_cases h9 : t9 < x9
          · have A9 : Hid (max (if j = 0 then x9 else t9) x9 = x9) := Lib.hid (by rw [if_neg hjz]; exact Int.max_eq_right (by omega))
            have d9 := (HD17.out.row HR.out.2 HX.out).2.2.2.2.2.2.2.2
            have p9 := HD17.out.b5.cell (i := 9) rfl
            go_quiet (fail)
            have HD23 : Hid (LTS w (Wd17.drewN nq) (some ⟨g4, 0, none⟩) n c4 (Le.cs (Le.rows L)) X3 [.int .i64 u0, .int .i64 u1, .int .i64 u2, .int .i64 u3, .int .i64 u4, .int .i64 u5, .int .i64 u6, .int .i64 u7, .int .i64 u8, .int .i64 u9] X5 [.int .i64 t0, .int .i64 t1, .int .i64 t2, .int .i64 t3, .int .i64 t4, .int .i64 t5, .int .i64 t6, .int .i64 t7, .int .i64 t8, .int .i64 t9]) := Lib.hid (HD17.out.dN nq)
            clear d9 p9 HD17
            revert HD23
            generalize (Wd17.drewN nq) = Wd23
            intro HD23
            clear dz hjz h9
            have px := HD23.out.b5.cell (i := 9) rfl
            have fx := HD23.out.b5.free 9
            have d9 := (HD23.out.row HR.out.2 HX.out).2.2.2.2.2.2.2.2
            go_upto_region 11 with fail
            have HS24 : Hid (LTS w (Wd23.setCell ⟨X5, 9, none⟩ (.int .i64 x9)) (some ⟨g4, 0, none⟩) n c4 (Le.cs (Le.rows L)) X3 [.int .i64 u0, .int .i64 u1, .int .i64 u2, .int .i64 u3, .int .i64 u4, .int .i64 u5, .int .i64 u6, .int .i64 u7, .int .i64 u8, .int .i64 u9] X5 [.int .i64 t0, .int .i64 t1, .int .i64 t2, .int .i64 t3, .int .i64 t4, .int .i64 t5, .int .i64 t6, .int .i64 t7, .int .i64 t8, .int .i64 x9]) := Lib.hid (HD23.out.st 9 _)
            clear px fx d9 HD23
            revert HS24
            generalize (Wd23.setCell ⟨X5, 9, none⟩ (.int .i64 x9)) = Ws24
            intro HS24
            by_cases h8 : x8 = 0
            · have b8 : (x8 == 0) = true := by simp [h8]
              have A8 : Hid ((if x8 = 0 then wrap64 (t8 + 1) else t8) = wrap64 (t8 + 1)) := Lib.hid (if_pos h8)
              have d8 := (HS24.out.row HR.out.2 HX.out).2.2.2.2.2.2.2.1
              go_upto_region 12 with fail
              clear b8 d8 h8
              have px := HS24.out.b5.cell (i := 8) rfl
              have fx := HS24.out.b5.free 8
              go_upto_region 13 with fail
              have HS25 : Hid (LTS w (Ws24.setCell ⟨X5, 8, none⟩ (.int .i64 (wrap64 (t8 + 1)))) (some ⟨g4, 0, none⟩) n c4 (Le.cs (Le.rows L)) X3 [.int .i64 u0, .int .i64 u1, .int .i64 u2, .int .i64 u3, .int .i64 u4, .int .i64 u5, .int .i64 u6, .int .i64 u7, .int .i64 u8, .int .i64 u9] X5 [.int .i64 t0, .int .i64 t1, .int .i64 t2, .int .i64 t3, .int .i64 t4, .int .i64 t5, .int .i64 t6, .int .i64 t7, .int .i64 (wrap64 (t8 + 1)), .int .i64 x9]) := Lib.hid (HS24.out.st 8 _)
              clear px fx  HS24
              revert HS25
              generalize (Ws24.setCell ⟨X5, 8, none⟩ (.int .i64 (wrap64 (t8 + 1)))) = Ws25
              intro HS25
              go_upto_region 13 with fail
              refine lt_reg13 Ws25 X5 g4 c4 n j (t0) (t1) (t2) (t3) (t4) (t5) (t6) (t7) (wrap64 (t8 + 1)) (x9) x3 x4 x5 _ _ _ _ _ _ _ _ _ _ _ _ _ _ _ _ _ _ _ _ _ _ _ _ _ _ _ _ _ _ _ _ _ _ _ _ _ _ _ _ _ _ _ _ _ _ _ _ _ _ _ _ _ _ _ _ _ _ _ _ _ _ _ _ _ _ _ _ _ _ _ _ _ _ _ _ _ _ _ _ _ _ _ _ _ _ _ _ _ _ _ _ _ _ _ _ _ _ _ _ _ _ _ _ _ _ _ _ _ _ _ _ _ hjn (by omega) HGX.out (HS25.out.row HR.out.2 HX.out).1 HS25.out.b5 (HS25.out.row HR.out.2 HX.out).2.2.1 (HS25.out.row HR.out.2 HX.out).2.2.2.1 (HS25.out.row HR.out.2 HX.out).2.2.2.2.1 _ (fun Wa26 q1 q2 => ?_)
              have HA26 : Hid (LTS w Wa26 (some ⟨g4, 0, none⟩) n c4 (Le.cs (Le.rows L)) X3 [.int .i64 u0, .int .i64 u1, .int .i64 u2, .int .i64 u3, .int .i64 u4, .int .i64 u5, .int .i64 u6, .int .i64 u7, .int .i64 u8, .int .i64 u9] X5 [.int .i64 t0, .int .i64 t1, .int .i64 t2, .int .i64 (IntKind.i64.wrap (t3 + x3)), .int .i64 (IntKind.i64.wrap (t4 + x4)), .int .i64 (IntKind.i64.wrap (t5 + x5)), .int .i64 t6, .int .i64 t7, .int .i64 (wrap64 (t8 + 1)), .int .i64 x9]) := Lib.hid (HS25.out.chg5 q1 q2)
              clear q1 q2 HS25
              go_upto_region 14 with fail
              refine lt_reg14 Wa26 X5 g4 c4 n j (t0) (t1) (t2) (IntKind.i64.wrap (t3 + x3)) (IntKind.i64.wrap (t4 + x4)) (IntKind.i64.wrap (t5 + x5)) (t6) (t7) (wrap64 (t8 + 1)) (x9) x6 x7 _ _ _ _ _ _ _ _ _ _ _ _ _ _ _ _ _ _ _ _ _ _ _ _ _ _ _ _ _ _ _ _ _ _ _ _ _ _ _ _ _ _ _ _ _ _ _ _ _ _ _ _ _ _ _ _ _ _ _ _ _ _ _ _ _ _ _ _ _ _ _ _ _ _ _ _ _ _ _ _ _ _ _ _ _ _ _ _ _ _ _ _ _ _ _ _ _ _ _ _ _ _ _ _ _ _ _ _ _ _ _ _ _ hjn (by omega) HGX.out (HA26.out.row HR.out.2 HX.out).1 HA26.out.b5 (HA26.out.row HR.out.2 HX.out).2.2.2.2.2.1 (HA26.out.row HR.out.2 HX.out).2.2.2.2.2.2.1 _ (fun Wb26 q1 q2 => ?_)
              have HB26 : Hid (LTS w Wb26 (some ⟨g4, 0, none⟩) n c4 (Le.cs (Le.rows L)) X3 [.int .i64 u0, .int .i64 u1, .int .i64 u2, .int .i64 u3, .int .i64 u4, .int .i64 u5, .int .i64 u6, .int .i64 u7, .int .i64 u8, .int .i64 u9] X5 [.int .i64 t0, .int .i64 t1, .int .i64 t2, .int .i64 (IntKind.i64.wrap (t3 + x3)), .int .i64 (IntKind.i64.wrap (t4 + x4)), .int .i64 (IntKind.i64.wrap (t5 + x5)), .int .i64 (IntKind.i64.wrap (t6 + x6)), .int .i64 (IntKind.i64.wrap (t7 + x7)), .int .i64 (wrap64 (t8 + 1)), .int .i64 x9]) := Lib.hid (HA26.out.chg5 q1 q2)
              clear q1 q2 HA26
              go_wp2_with fail
              go_roundw
              case rel => exact ⟨j + 1, _, _, _, _, _, _, _, _, _, _, by go_num, by omega, Lib.hid ⟨HB26.out, by rw [HN.out, A2.out, A8.out, A9.out]; simp only [IntWalk.i64_left]⟩⟩
              case measure => simp [intOf]; omega
            · have b8 : (x8 == 0) = false := by simp [h8]
              have A8 : Hid ((if x8 = 0 then wrap64 (t8 + 1) else t8) = t8) := Lib.hid (if_neg h8)
              have d8 := (HS24.out.row HR.out.2 HX.out).2.2.2.2.2.2.2.1
              go_upto_region 13 with fail
              clear b8 d8 h8
              refine lt_reg13 Ws24 X5 g4 c4 n j (t0) (t1) (t2) (t3) (t4) (t5) (t6) (t7) (t8) (x9) x3 x4 x5 _ _ _ _ _ _ _ _ _ _ _ _ _ _ _ _ _ _ _ _ _ _ _ _ _ _ _ _ _ _ _ _ _ _ _ _ _ _ _ _ _ _ _ _ _ _ _ _ _ _ _ _ _ _ _ _ _ _ _ _ _ _ _ _ _ _ _ _ _ _ _ _ _ _ _ _ _ _ _ _ _ _ _ _ _ _ _ _ _ _ _ _ _ _ _ _ _ _ _ _ _ _ _ _ _ _ _ _ _ _ _ _ _ hjn (by omega) HGX.out (HS24.out.row HR.out.2 HX.out).1 HS24.out.b5 (HS24.out.row HR.out.2 HX.out).2.2.1 (HS24.out.row HR.out.2 HX.out).2.2.2.1 (HS24.out.row HR.out.2 HX.out).2.2.2.2.1 _ (fun Wa27 q1 q2 => ?_)
              have HA27 : Hid (LTS w Wa27 (some ⟨g4, 0, none⟩) n c4 (Le.cs (Le.rows L)) X3 [.int .i64 u0, .int .i64 u1, .int .i64 u2, .int .i64 u3, .int .i64 u4, .int .i64 u5, .int .i64 u6, .int .i64 u7, .int .i64 u8, .int .i64 u9] X5 [.int .i64 t0, .int .i64 t1, .int .i64 t2, .int .i64 (IntKind.i64.wrap (t3 + x3)), .int .i64 (IntKind.i64.wrap (t4 + x4)), .int .i64 (IntKind.i64.wrap (t5 + x5)), .int .i64 t6, .int .i64 t7, .int .i64 t8, .int .i64 x9]) := Lib.hid (HS24.out.chg5 q1 q2)
              clear q1 q2 HS24
              go_upto_region 14 with fail
              refine lt_reg14 Wa27 X5 g4 c4 n j (t0) (t1) (t2) (IntKind.i64.wrap (t3 + x3)) (IntKind.i64.wrap (t4 + x4)) (IntKind.i64.wrap (t5 + x5)) (t6) (t7) (t8) (x9) x6 x7 _ _ _ _ _ _ _ _ _ _ _ _ _ _ _ _ _ _ _ _ _ _ _ _ _ _ _ _ _ _ _ _ _ _ _ _ _ _ _ _ _ _ _ _ _ _ _ _ _ _ _ _ _ _ _ _ _ _ _ _ _ _ _ _ _ _ _ _ _ _ _ _ _ _ _ _ _ _ _ _ _ _ _ _ _ _ _ _ _ _ _ _ _ _ _ _ _ _ _ _ _ _ _ _ _ _ _ _ _ _ _ _ _ hjn (by omega) HGX.out (HA27.out.row HR.out.2 HX.out).1 HA27.out.b5 (HA27.out.row HR.out.2 HX.out).2.2.2.2.2.1 (HA27.out.row HR.out.2 HX.out).2.2.2.2.2.2.1 _ (fun Wb27 q1 q2 => ?_)
              have HB27 : Hid (LTS w Wb27 (some ⟨g4, 0, none⟩) n c4 (Le.cs (Le.rows L)) X3 [.int .i64 u0, .int .i64 u1, .int .i64 u2, .int .i64 u3, .int .i64 u4, .int .i64 u5, .int .i64 u6, .int .i64 u7, .int .i64 u8, .int .i64 u9] X5 [.int .i64 t0, .int .i64 t1, .int .i64 t2, .int .i64 (IntKind.i64.wrap (t3 + x3)), .int .i64 (IntKind.i64.wrap (t4 + x4)), .int .i64 (IntKind.i64.wrap (t5 + x5)), .int .i64 (IntKind.i64.wrap (t6 + x6)), .int .i64 (IntKind.i64.wrap (t7 + x7)), .int .i64 t8, .int .i64 x9]) := Lib.hid (HA27.out.chg5 q1 q2)
              clear q1 q2 HA27
              go_wp2_with fail
              go_roundw
              case rel => exact ⟨j + 1, _, _, _, _, _, _, _, _, _, _, by go_num, by omega, Lib.hid ⟨HB27.out, by rw [HN.out, A2.out, A8.out, A9.out]; simp only [IntWalk.i64_left]⟩⟩
              case measure => simp [intOf]; omega
          · have A9 : Hid (max (if j = 0 then x9 else t9) x9 = t9) := Lib.hid (by rw [if_neg hjz]; exact Int.max_eq_left (by omega))
            have d9 := (HD17.out.row HR.out.2 HX.out).2.2.2.2.2.2.2.2
            have p9 := HD17.out.b5.cell (i := 9) rfl
            go_quiet (fail)
            have HD28 : Hid (LTS w (Wd17.drewN nq) (some ⟨g4, 0, none⟩) n c4 (Le.cs (Le.rows L)) X3 [.int .i64 u0, .int .i64 u1, .int .i64 u2, .int .i64 u3, .int .i64 u4, .int .i64 u5, .int .i64 u6, .int .i64 u7, .int .i64 u8, .int .i64 u9] X5 [.int .i64 t0, .int .i64 t1, .int .i64 t2, .int .i64 t3, .int .i64 t4, .int .i64 t5, .int .i64 t6, .int .i64 t7, .int .i64 t8, .int .i64 t9]) := Lib.hid (HD17.out.dN nq)
            clear d9 p9 HD17
            revert HD28
            generalize (Wd17.drewN nq) = Wd28
            intro HD28
            clear dz hjz h9
            go_upto_region 11 with fail
            by_cases h8 : x8 = 0
            · have b8 : (x8 == 0) = true := by simp [h8]
              have A8 : Hid ((if x8 = 0 then wrap64 (t8 + 1) else t8) = wrap64 (t8 + 1)) := Lib.hid (if_pos h8)
              have d8 := (HD28.out.row HR.out.2 HX.out).2.2.2.2.2.2.2.1
              go_upto_region 12 with fail
              clear b8 d8 h8
              have px := HD28.out.b5.cell (i := 8) rfl
              have fx := HD28.out.b5.free 8
              go_upto_region 13 with fail
              have HS29 : Hid (LTS w (Wd28.setCell ⟨X5, 8, none⟩ (.int .i64 (wrap64 (t8 + 1)))) (some ⟨g4, 0, none⟩) n c4 (Le.cs (Le.rows L)) X3 [.int .i64 u0, .int .i64 u1, .int .i64 u2, .int .i64 u3, .int .i64 u4, .int .i64 u5, .int .i64 u6, .int .i64 u7, .int .i64 u8, .int .i64 u9] X5 [.int .i64 t0, .int .i64 t1, .int .i64 t2, .int .i64 t3, .int .i64 t4, .int .i64 t5, .int .i64 t6, .int .i64 t7, .int .i64 (wrap64 (t8 + 1)), .int .i64 t9]) := Lib.hid (HD28.out.st 8 _)
              clear px fx  HD28
              revert HS29
              generalize (Wd28.setCell ⟨X5, 8, none⟩ (.int .i64 (wrap64 (t8 + 1)))) = Ws29
              intro HS29
              go_upto_region 13 with fail
              refine lt_reg13 Ws29 X5 g4 c4 n j (t0) (t1) (t2) (t3) (t4) (t5) (t6) (t7) (wrap64 (t8 + 1)) (t9) x3 x4 x5 _ _ _ _ _ _ _ _ _ _ _ _ _ _ _ _ _ _ _ _ _ _ _ _ _ _ _ _ _ _ _ _ _ _ _ _ _ _ _ _ _ _ _ _ _ _ _ _ _ _ _ _ _ _ _ _ _ _ _ _ _ _ _ _ _ _ _ _ _ _ _ _ _ _ _ _ _ _ _ _ _ _ _ _ _ _ _ _ _ _ _ _ _ _ _ _ _ _ _ _ _ _ _ _ _ _ _ _ _ _ _ _ _ hjn (by omega) HGX.out (HS29.out.row HR.out.2 HX.out).1 HS29.out.b5 (HS29.out.row HR.out.2 HX.out).2.2.1 (HS29.out.row HR.out.2 HX.out).2.2.2.1 (HS29.out.row HR.out.2 HX.out).2.2.2.2.1 _ (fun Wa30 q1 q2 => ?_)
              have HA30 : Hid (LTS w Wa30 (some ⟨g4, 0, none⟩) n c4 (Le.cs (Le.rows L)) X3 [.int .i64 u0, .int .i64 u1, .int .i64 u2, .int .i64 u3, .int .i64 u4, .int .i64 u5, .int .i64 u6, .int .i64 u7, .int .i64 u8, .int .i64 u9] X5 [.int .i64 t0, .int .i64 t1, .int .i64 t2, .int .i64 (IntKind.i64.wrap (t3 + x3)), .int .i64 (IntKind.i64.wrap (t4 + x4)), .int .i64 (IntKind.i64.wrap (t5 + x5)), .int .i64 t6, .int .i64 t7, .int .i64 (wrap64 (t8 + 1)), .int .i64 t9]) := Lib.hid (HS29.out.chg5 q1 q2)
              clear q1 q2 HS29
              go_upto_region 14 with fail
              refine lt_reg14 Wa30 X5 g4 c4 n j (t0) (t1) (t2) (IntKind.i64.wrap (t3 + x3)) (IntKind.i64.wrap (t4 + x4)) (IntKind.i64.wrap (t5 + x5)) (t6) (t7) (wrap64 (t8 + 1)) (t9) x6 x7 _ _ _ _ _ _ _ _ _ _ _ _ _ _ _ _ _ _ _ _ _ _ _ _ _ _ _ _ _ _ _ _ _ _ _ _ _ _ _ _ _ _ _ _ _ _ _ _ _ _ _ _ _ _ _ _ _ _ _ _ _ _ _ _ _ _ _ _ _ _ _ _ _ _ _ _ _ _ _ _ _ _ _ _ _ _ _ _ _ _ _ _ _ _ _ _ _ _ _ _ _ _ _ _ _ _ _ _ _ _ _ _ _ hjn (by omega) HGX.out (HA30.out.row HR.out.2 HX.out).1 HA30.out.b5 (HA30.out.row HR.out.2 HX.out).2.2.2.2.2.1 (HA30.out.row HR.out.2 HX.out).2.2.2.2.2.2.1 _ (fun Wb30 q1 q2 => ?_)
              have HB30 : Hid (LTS w Wb30 (some ⟨g4, 0, none⟩) n c4 (Le.cs (Le.rows L)) X3 [.int .i64 u0, .int .i64 u1, .int .i64 u2, .int .i64 u3, .int .i64 u4, .int .i64 u5, .int .i64 u6, .int .i64 u7, .int .i64 u8, .int .i64 u9] X5 [.int .i64 t0, .int .i64 t1, .int .i64 t2, .int .i64 (IntKind.i64.wrap (t3 + x3)), .int .i64 (IntKind.i64.wrap (t4 + x4)), .int .i64 (IntKind.i64.wrap (t5 + x5)), .int .i64 (IntKind.i64.wrap (t6 + x6)), .int .i64 (IntKind.i64.wrap (t7 + x7)), .int .i64 (wrap64 (t8 + 1)), .int .i64 t9]) := Lib.hid (HA30.out.chg5 q1 q2)
              clear q1 q2 HA30
              go_wp2_with fail
              go_roundw
              case rel => exact ⟨j + 1, _, _, _, _, _, _, _, _, _, _, by go_num, by omega, Lib.hid ⟨HB30.out, by rw [HN.out, A2.out, A8.out, A9.out]; simp only [IntWalk.i64_left]⟩⟩
              case measure => simp [intOf]; omega
            · have b8 : (x8 == 0) = false := by simp [h8]
              have A8 : Hid ((if x8 = 0 then wrap64 (t8 + 1) else t8) = t8) := Lib.hid (if_neg h8)
              have d8 := (HD28.out.row HR.out.2 HX.out).2.2.2.2.2.2.2.1
              go_upto_region 13 with fail
              clear b8 d8 h8
              refine lt_reg13 Wd28 X5 g4 c4 n j (t0) (t1) (t2) (t3) (t4) (t5) (t6) (t7) (t8) (t9) x3 x4 x5 _ _ _ _ _ _ _ _ _ _ _ _ _ _ _ _ _ _ _ _ _ _ _ _ _ _ _ _ _ _ _ _ _ _ _ _ _ _ _ _ _ _ _ _ _ _ _ _ _ _ _ _ _ _ _ _ _ _ _ _ _ _ _ _ _ _ _ _ _ _ _ _ _ _ _ _ _ _ _ _ _ _ _ _ _ _ _ _ _ _ _ _ _ _ _ _ _ _ _ _ _ _ _ _ _ _ _ _ _ _ _ _ _ hjn (by omega) HGX.out (HD28.out.row HR.out.2 HX.out).1 HD28.out.b5 (HD28.out.row HR.out.2 HX.out).2.2.1 (HD28.out.row HR.out.2 HX.out).2.2.2.1 (HD28.out.row HR.out.2 HX.out).2.2.2.2.1 _ (fun Wa31 q1 q2 => ?_)
              have HA31 : Hid (LTS w Wa31 (some ⟨g4, 0, none⟩) n c4 (Le.cs (Le.rows L)) X3 [.int .i64 u0, .int .i64 u1, .int .i64 u2, .int .i64 u3, .int .i64 u4, .int .i64 u5, .int .i64 u6, .int .i64 u7, .int .i64 u8, .int .i64 u9] X5 [.int .i64 t0, .int .i64 t1, .int .i64 t2, .int .i64 (IntKind.i64.wrap (t3 + x3)), .int .i64 (IntKind.i64.wrap (t4 + x4)), .int .i64 (IntKind.i64.wrap (t5 + x5)), .int .i64 t6, .int .i64 t7, .int .i64 t8, .int .i64 t9]) := Lib.hid (HD28.out.chg5 q1 q2)
              clear q1 q2 HD28
              go_upto_region 14 with fail
              refine lt_reg14 Wa31 X5 g4 c4 n j (t0) (t1) (t2) (IntKind.i64.wrap (t3 + x3)) (IntKind.i64.wrap (t4 + x4)) (IntKind.i64.wrap (t5 + x5)) (t6) (t7) (t8) (t9) x6 x7 _ _ _ _ _ _ _ _ _ _ _ _ _ _ _ _ _ _ _ _ _ _ _ _ _ _ _ _ _ _ _ _ _ _ _ _ _ _ _ _ _ _ _ _ _ _ _ _ _ _ _ _ _ _ _ _ _ _ _ _ _ _ _ _ _ _ _ _ _ _ _ _ _ _ _ _ _ _ _ _ _ _ _ _ _ _ _ _ _ _ _ _ _ _ _ _ _ _ _ _ _ _ _ _ _ _ _ _ _ _ _ _ _ hjn (by omega) HGX.out (HA31.out.row HR.out.2 HX.out).1 HA31.out.b5 (HA31.out.row HR.out.2 HX.out).2.2.2.2.2.1 (HA31.out.row HR.out.2 HX.out).2.2.2.2.2.2.1 _ (fun Wb31 q1 q2 => ?_)
              have HB31 : Hid (LTS w Wb31 (some ⟨g4, 0, none⟩) n c4 (Le.cs (Le.rows L)) X3 [.int .i64 u0, .int .i64 u1, .int .i64 u2, .int .i64 u3, .int .i64 u4, .int .i64 u5, .int .i64 u6, .int .i64 u7, .int .i64 u8, .int .i64 u9] X5 [.int .i64 t0, .int .i64 t1, .int .i64 t2, .int .i64 (IntKind.i64.wrap (t3 + x3)), .int .i64 (IntKind.i64.wrap (t4 + x4)), .int .i64 (IntKind.i64.wrap (t5 + x5)), .int .i64 (IntKind.i64.wrap (t6 + x6)), .int .i64 (IntKind.i64.wrap (t7 + x7)), .int .i64 t8, .int .i64 t9]) := Lib.hid (HA31.out.chg5 q1 q2)
              clear q1 q2 HA31
              go_wp2_with fail
              go_roundw
              case rel => exact ⟨j + 1, _, _, _, _, _, _, _, _, _, _, by go_num, by omega, Lib.hid ⟨HB31.out, by rw [HN.out, A2.out, A8.out, A9.out]; simp only [IntWalk.i64_left]⟩⟩
              case measure => simp [intOf]; omega
    · obtain rfl : j = n := by omega
      have i1 : ¬ (j : Int) < (j : Int) := by omega
      have hxe := HTT.out.symm.trans HU.out
      simp only [Le.R.mk.injEq] at hxe
      obtain ⟨rfl, rfl, rfl, rfl, rfl, rfl, rfl, rfl, rfl, rfl⟩ := hxe
      have p0 := HB.out.b3.cell (i := 0) rfl
      have q0 := HB.out.b5.cell (i := 0) rfl
      have p1 := HB.out.b3.cell (i := 1) rfl
      have q1 := HB.out.b5.cell (i := 1) rfl
      have p2 := HB.out.b3.cell (i := 2) rfl
      have q2 := HB.out.b5.cell (i := 2) rfl
      have p3 := HB.out.b3.cell (i := 3) rfl
      have q3 := HB.out.b5.cell (i := 3) rfl
      have p4 := HB.out.b3.cell (i := 4) rfl
      have q4 := HB.out.b5.cell (i := 4) rfl
      have p5 := HB.out.b3.cell (i := 5) rfl
      have q5 := HB.out.b5.cell (i := 5) rfl
      have p6 := HB.out.b3.cell (i := 6) rfl
      have q6 := HB.out.b5.cell (i := 6) rfl
      have p7 := HB.out.b3.cell (i := 7) rfl
      have q7 := HB.out.b5.cell (i := 7) rfl
      have p8 := HB.out.b3.cell (i := 8) rfl
      have q8 := HB.out.b5.cell (i := 8) rfl
      have p9 := HB.out.b3.cell (i := 9) rfl
      have q9 := HB.out.b5.cell (i := 9) rfl
      go_wp2_with (first
        | (go_at_call 11; (with_reducible refine (le_same t0 t1 t2 t3 t4 t5 t6 t7 t8 t9 _).mono ?_); rintro e1 V1 ⟨rfl, q3⟩; have HC := Lib.hid (HB.out.below q3); clear q3)
        | (go_at_call 13; (with_reducible refine (le_lives _ (tab_below HC.out.be HTB.out.1) (HTB.out.2.below HC.out.be)).mono ?_); rintro e1 V2 ⟨rfl, q3⟩; have HD := Lib.hid (HC.out.be.trans (q3.mono HC.out.be.size)); clear q3))
      go_ret
      exact ⟨rfl, HD.out⟩


theorem own3 : ownKnob Tryd.prog.godebug = none := by kernel_rfl
theorem tab_rows : (Rows.laid_internal_strconv_uint64pow10 : DataW Unit) = Lib.tabData .u64 Lib.pow10Tab := by kernel_rfl
theorem tab_of (W : World) (hL : laidMetH Tryd.prog Rows.ledgerTotalsRow.laid W) : Lib.TabIs Tryd.prog W "internal/strconv.uint64pow10" .u64 Lib.pow10Tab := by
  have h1 : laidMet Tryd.prog Rows.ledgerTotalsRow.laid W := hL
  have h2 : laidMet Tryd.prog [("math/bits.deBruijn32tab", Rows.laid_math_bits_deBruijn32tab), ("math/bits.deBruijn64tab", Rows.laid_math_bits_deBruijn64tab), ("internal/strconv.uint64pow10", Rows.laid_internal_strconv_uint64pow10), ("repartee/log.statuses", Rows.laid_repartee_log_statuses)] W := h1
  have h3 := h2.tail.tail
  rw [tab_rows] at h3
  exact Lib.tabIs_of_head (g := 1) (t := 137) (e := 118) (n := 20) (by kernel_rfl) (by kernel_rfl) (by kernel_rfl) (by kernel_rfl) (by kernel_rfl) (by kernel_rfl) h3
theorem si_of (W : World) (hL : laidMetH Tryd.prog Rows.ledgerTotalsRow.laid W) : SI W := by
  have h1 : laidMet Tryd.prog Rows.ledgerTotalsRow.laid W := hL
  have h2 : laidMet Tryd.prog [("math/bits.deBruijn32tab", Rows.laid_math_bits_deBruijn32tab), ("math/bits.deBruijn64tab", Rows.laid_math_bits_deBruijn64tab), ("internal/strconv.uint64pow10", Rows.laid_internal_strconv_uint64pow10), ("repartee/log.statuses", Rows.laid_repartee_log_statuses)] W := h1
  exact SI_of W h2.tail.tail.tail
set_option maxRecDepth 100000 in
theorem contract (H : Type) (enc : TypeId × Value → H) (W : World) (base : Nat) (args : Array Value) (ds gs : List (DataW H)) (before : List MemPlace)
    (hval0 : ∀ (j : Nat) t v, Tryd.f4.params[j]? = some t → args[j]? = some v → Value.okWide Tryd.prog W .any base t v)
    (hW : DataW.Whole enc Tryd.prog Tryd.f4.params.toList Rows.ledgerTotalsSpec.vars false W args.toList ds gs before) (hSh : W.ShapedOpen Tryd.prog) (htab : Lib.TabIs Tryd.prog W "internal/strconv.uint64pow10" .u64 Lib.pow10Tab) (hsi : SI W) :
    Calls Tryd.prog 4 args W fun e W' => ∃ v, e = .returned v ∧ Rows.ledgerTotalsSpec.post enc Tryd.prog Tryd.f4 false true false false W args v W' := by
  have hval : ∀ (j : Nat) t v, Tryd.f4.params[j]? = some t → args[j]? = some v → Value.okWide Tryd.prog W .any base t v := hval0
  have hW' := hW
  obtain ⟨p, q, hA0, hV, rfl, hfz, hnd⟩ := hW
  have hA : DataW.TrodAll enc Tryd.prog W 0 (fun _ => true) true Tryd.f4.params.toList args.toList ds p := hA0
  rw [Tryd.params4] at hA hval
  obtain ⟨v0, vs0, d0, ds0, p0, q0, hargs, rfl, rfl, h0, r0⟩ := trodAll_cons hA
  obtain ⟨rfl, rfl, rfl⟩ := trodAll_nil r0
  obtain rfl : args = #[v0] := by cases args; simp_all
  obtain ⟨rfl, rfl⟩ := trodVars_none hV
  have k0 := h0
  have lt0 : ∀ x ∈ p0, x.block < W.heap.size := by obtain ⟨m, hm⟩ := k0; exact DataW.trod_lt m _ _ _ hm
  obtain ⟨b0, lb0, cb0, rfl⟩ := okWide_slice Tryd.underlying22 (hval 0 22 v0 rfl rfl)
  obtain ⟨fu0, hf0⟩ := h0
  simp only [Value.cells] at hf0
  obtain ⟨a0, len0, cap0, z0, e0, w0⟩ := fld_ev hf0
  obtain ⟨rfl, rfl, rfl⟩ : b0 = a0 ∧ lb0 = len0 ∧ cb0 = cap0 := by simpa using e0
  clear hA0 hval0
  refine (walk b0 lb0 cb0 z0 W htab hsi w0).mono fun e W' ⟨he, bel⟩ => ?_
  subst he
  exact ⟨_, rfl, _, _, _, [], _, [], hW', trodAll_mk1 (shut_bool Tryd.underlying4 _), (trodAll_cons_mk (Below.trod laidOut (by kernel_rfl) (of_decide_eq_true (by kernel_rfl)) k0 bel lt0) trodAll_mk0), rfl, bel.frame _, fun h => by cases h⟩

noncomputable def laidWorld (os : Os) : World :=
  { World.holding Tryd.prog os ⟨#[], #[], []⟩ with heap := (((((World.holding Tryd.prog os ⟨#[], #[], []⟩).heap.modify 3 fun
      | .cells _ t frozen => .cells #[.int .u8 0, .int .u8 1, .int .u8 28, .int .u8 2, .int .u8 29, .int .u8 14, .int .u8 24, .int .u8 3, .int .u8 30, .int .u8 22, .int .u8 20, .int .u8 15, .int .u8 25, .int .u8 17, .int .u8 4, .int .u8 8, .int .u8 31, .int .u8 27, .int .u8 13, .int .u8 23, .int .u8 21, .int .u8 19, .int .u8 16, .int .u8 7, .int .u8 26, .int .u8 12, .int .u8 18, .int .u8 6, .int .u8 11, .int .u8 5, .int .u8 10, .int .u8 9] t frozen
      | o => o).modify 4 fun
      | .cells _ t frozen => .cells #[.int .u8 0, .int .u8 1, .int .u8 56, .int .u8 2, .int .u8 57, .int .u8 49, .int .u8 28, .int .u8 3, .int .u8 61, .int .u8 58, .int .u8 42, .int .u8 50, .int .u8 38, .int .u8 29, .int .u8 17, .int .u8 4, .int .u8 62, .int .u8 47, .int .u8 59, .int .u8 36, .int .u8 45, .int .u8 43, .int .u8 51, .int .u8 22, .int .u8 53, .int .u8 39, .int .u8 33, .int .u8 30, .int .u8 24, .int .u8 18, .int .u8 12, .int .u8 5, .int .u8 63, .int .u8 55, .int .u8 48, .int .u8 27, .int .u8 60, .int .u8 41, .int .u8 37, .int .u8 16, .int .u8 46, .int .u8 35, .int .u8 44, .int .u8 21, .int .u8 52, .int .u8 32, .int .u8 23, .int .u8 11, .int .u8 54, .int .u8 26, .int .u8 40, .int .u8 15, .int .u8 34, .int .u8 20, .int .u8 31, .int .u8 10, .int .u8 25, .int .u8 14, .int .u8 19, .int .u8 9, .int .u8 13, .int .u8 8, .int .u8 7, .int .u8 6] t frozen
      | o => o).modify 1 fun
      | .cells _ t frozen => .cells #[.int .u64 1, .int .u64 10, .int .u64 100, .int .u64 1000, .int .u64 10000, .int .u64 100000, .int .u64 1000000, .int .u64 10000000, .int .u64 100000000, .int .u64 1000000000, .int .u64 10000000000, .int .u64 100000000000, .int .u64 1000000000000, .int .u64 10000000000000, .int .u64 100000000000000, .int .u64 1000000000000000, .int .u64 10000000000000000, .int .u64 100000000000000000, .int .u64 1000000000000000000, .int .u64 10000000000000000000] t frozen
      | o => o).modify 0 fun
      | .cells _ t frozen => .cells #[.string ⟨#[114, 117, 110]⟩, .string ⟨#[100, 111, 110, 101]⟩, .string ⟨#[102, 97, 105, 108, 101, 100]⟩, .string ⟨#[100, 101, 97, 100, 108, 105, 110, 101]⟩, .string ⟨#[111, 118, 101, 114, 102, 108, 111, 119]⟩, .string ⟨#[100, 114, 97, 105, 110, 101, 100]⟩] t frozen
      | o => o) }
theorem laid_met (os : Os) : laidMet Tryd.prog Rows.ledgerTotalsRow.laid ((laidWorld os).forCall (fun _ _ => 0) ⟨#[], #[.slice none 0 0], []⟩).memory :=
  laidMet_of_run' 8 (by kernel_rfl) (by kernel_rfl)
theorem reads (os : Os) {H : Type} (enc : TypeId × Value → H) : ∃ places, DataW.whole enc Tryd.prog ((laidWorld os).forCall (fun _ _ => 0) ⟨#[], #[.slice none 0 0], []⟩).memory Tryd.f4.params.toList Rows.ledgerTotalsSpec.vars false (#[.slice none 0 0] : Array Value).toList 8 = some ([.nil], [], places) :=
  ⟨[], by kernel_rfl⟩
set_option maxRecDepth 100000 in
theorem lifted (os : Os) (started : os.Started) (H : Type) (enc : TypeId × Value → H) (F : Stop.Interp) :
    ReturnsInHanded {} Tryd.checked os 4 .any ((OpenSpec.ofChange Rows.ledgerTotalsSpec).preRow enc Tryd.prog Tryd.f4 Rows.ledgerTotalsRow.domain false Rows.ledgerTotalsRow.laid) (((OpenSpec.ofChange Rows.ledgerTotalsSpec).at F).post enc Tryd.prog Tryd.f4 false true false false) := by
  obtain ⟨places, hx⟩ := reads os enc
  refine returnsInHanded_of_row (C := Tryd.checked) (s := OpenSpec.ofChange Rows.ledgerTotalsSpec) own3 started (by kernel_rfl) Tryd.func4
    (witness_row_at (enc := enc) (C := Tryd.checked) false (laidWorld os) #[.slice none 0 0] rfl (by kernel_rfl) (by kernel_rfl) (by kernel_rfl)
      (OpenSpec.preRow_of_cond 8 hx (by kernel_rfl) (fun k hk => by cases hk) (by kernel_rfl) (laid_met os))) ?_
  intro W base args ds gs before hval hW _ _ _ hL hSh _
  exact contract H enc W base args ds gs before hval hW hSh (tab_of W hL) (si_of W hL)
theorem said : Rows.LedgerTotalsSaid :=
  OpenClaim.holds_of_cond 4 Tryd.f4 rfl rfl rfl rfl rfl rfl rfl ⟨rfl, rfl, rfl, rfl, rfl⟩ rfl rfl rfl rfl rfl (by kernel_rfl) Tryd.func4 (by kernel_rfl)
    (of_decide_eq_true (by kernel_rfl)) (by unfold Func.isWrapper; first | (rw [if_pos (by decide +kernel)]; kernel_rfl) | (rw [if_neg (by decide +kernel)]; exact ⟨rfl, rfl⟩))
    (fun os started H enc _ F => by rw [OpenClaim.pre_eq_preRow]; exact lifted os started H enc F)
theorem plain (f : FuncId) (fn : Func) (hf : Tryd.pinned.checked.prog.funcNamed "repartee/reparteelaw38.LedgerTotals" = some f) (hfn : Tryd.pinned.checked.prog.funcs[f]? = some fn) :
    false = Tryd.pinned.checked.prog.looks [] ∧ ∀ (j : Nat) t, fn.params[j]? = some t → Tryd.pinned.checked.prog.wantsStandIn t = false := by
  obtain rfl : f = 4 := Option.some.inj ((show Tryd.prog.funcNamed "repartee/reparteelaw38.LedgerTotals" = some 4 by kernel_rfl).symm.trans hf) |>.symm
  obtain rfl : fn = Tryd.f4 := (Option.some.inj (Tryd.func4.symm.trans hfn)).symm
  refine ⟨by kernel_rfl, fun j t ht => ?_⟩
  rw [Tryd.params4] at ht
  have hm : t ∈ [22] := by simpa using Array.mem_of_getElem? ht
  have hall : ([22].all fun u => !Tryd.prog.wantsStandIn u) = true := by kernel_rfl
  exact (show Tryd.prog.wantsStandIn t = false by simpa using List.all_eq_true.1 hall t hm)
/-- The statement. -/
theorem proved : Rows.LedgerTotalsCardSaid :=
  Claim7.holds_tied_plain_at .later [] _ _ _ _ said (fun _ h => by cases h) (by kernel_rfl) (fun _ h => by cases h) ledgerTotals_row_tie rfl ⟨rfl, rfl⟩ (by kernel_rfl) rfl plain (by kernel_rfl)
#print axioms proved
end Go.Proofs.YtdchedkhlfmpeaaDoor.ledgerTotals
