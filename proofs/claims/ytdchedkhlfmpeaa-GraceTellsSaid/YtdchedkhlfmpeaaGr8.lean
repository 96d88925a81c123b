/- Grace: Bound. -/
import Derived.Test.YtdchedkhlfmpeaaGr7
import Derived.Test.YtdchedkhlfmpeaaCoA
import Derived.WalkKit
import Derived.ProofKit
import Derived.Handy
import Derived.WalkLawsBesides
import Derived.WalkSpells
import Derived.Lib.Hide
import Derived.Lib.SliceRun
import Derived.Deep.RegionLaw
import Derived.RegionTactic
import Derived.ChangeAlike
import Derived.WalkSmall
import Derived.Deep.QuietTactic
import Derived.BigQuiet
import Derived.OwnWalk
import Derived.Outline
import Derived.Deep.CutRange
import Derived.Deep.CutBlock
import Derived.LoopTactic
namespace Go.Proofs.Ytdchedkhlfmpeaa
open Go.ChangeShapes Go.WideShapes Go.ChangeAt Go.RowKit
set_option linter.unusedSimpArgs false
set_option linter.unusedVariables false

def Gr.beg (L : List Ev) : Int × Bool := match L[Gr.fst 7 L]? with | some x => (x.t, true) | none => (0, false)
set_option maxRecDepth 20000 in
set_option maxHeartbeats 16000000 in
theorem gr_begin2 (a : Option Addr) (len cap : Nat) (L : List Ev) (hl : L.length = len) (hlm : len ≤ 1000000) (t : Int) (ok : Bool) (hb : Gr.beg L = (t, ok)) (w : World) (HE : EL w a L) :
    Calls Try.prog 23 #[.slice a len cap] w fun e w' => e = .returned (.tuple #[.int .i64 t, .bool ok]) ∧ Below w.heap.size w w' := gr_begin a len cap L hl hlm t ok hb w HE
set_option maxRecDepth 20000 in
set_option maxHeartbeats 16000000 in
theorem gr_bound (l r i o q v each : Int) (he : each ≤ 9223372036854775807) (a : Option Addr) (len cap : Nat) (L : List Ev) (hl : L.length = len) (hlm : len ≤ 100000) (t : Int) (ht : t ≤ 9223372036854775807) (ok : Bool) (hb : Gr.beg L = (t, ok)) (u : Int) (hu : Co.untl l r i o q v t each = u) (c : Int) (hc : Ev.clock L = c) (bb0 : Int) (okb : Bool)
    (hres : (if ok = true ∧ Co.goodB l r i o q v = true ∧ ¬ each < 1 ∧ ¬ u = 9223372036854775807 ∧ ¬ c < u then (u, true) else ((0 : Int), false)) = (bb0, okb)) (w : World) (HE : EL w a L) :
    Calls Try.prog 21 #[.agg #[.int .i64 l, .int .i64 r, .int .i64 i, .int .i64 o, .int .i64 q, .int .i64 v], .slice a len cap, .int .i64 each] w fun e w' => e = .returned (.tuple #[.int .i64 bb0, .bool okb]) ∧ Below w.heap.size w w' := by
  obtain ⟨X, hX⟩ : ∃ X, w.heap.size = X := ⟨_, rfl⟩
  have H0 : Hid (Blk (w.alloc (.cells #[.int .i64 l, .int .i64 r, .int .i64 i, .int .i64 o, .int .i64 q, .int .i64 v] 54)) X [.int .i64 l, .int .i64 r, .int .i64 i, .int .i64 o, .int .i64 q, .int .i64 v] 54 ∧ EL (w.alloc (.cells #[.int .i64 l, .int .i64 r, .int .i64 i, .int .i64 o, .int .i64 q, .int .i64 v] 54)) a L ∧ Below w.heap.size w (w.alloc (.cells #[.int .i64 l, .int .i64 r, .int .i64 i, .int .i64 o, .int .i64 q, .int .i64 v] 54)) ∧ X < (w.alloc (.cells #[.int .i64 l, .int .i64 r, .int .i64 i, .int .i64 o, .int .i64 q, .int .i64 v] 54)).heap.size) := Lib.hid (by
    have b1 := Blk.newA w #[.int .i64 l, .int .i64 r, .int .i64 i, .int .i64 o, .int .i64 q, .int .i64 v] 54
    rw [hX] at b1
    exact ⟨b1, HE.below ((Below.refl _ _).alloc (Nat.le_refl _) _), (Below.refl _ _).alloc (Nat.le_refl _) _, b1.lt⟩)
  have HL := Lib.hid (And.intro hl hb)
  have HU := Lib.hid hu
  have HCK := Lib.hid hc
  have HRES := Lib.hid hres
  clear hl hb hu hc hres HE
  cases ok with
  | false =>
    have HR : Hid (0 = bb0 ∧ false = okb) := Lib.hid (by
      have h := HRES.out
      rw [if_neg (by simp)] at h
      injection h with h1 h2
      exact ⟨h1, h2⟩)
    go_enter Try.func21, Try.ntmps21
    go_upto_region 1 with fail
    revert H0
    generalize (w.alloc (.cells #[.int .i64 l, .int .i64 r, .int .i64 i, .int .i64 o, .int .i64 q, .int .i64 v] 54)) = W0
    intro H0
    have HA := H0
    clear H0
    go_wp2_with (first
      | (go_at_call 23; (with_reducible refine (gr_begin2 a len cap L HL.out.1 (by omega) t false HL.out.2 _ HA.out.2.1).mono ?_); rintro r4 W1 ⟨rfl, bb⟩; have HB1 : Hid (Blk W1 X [.int .i64 l, .int .i64 r, .int .i64 i, .int .i64 o, .int .i64 q, .int .i64 v] 54 ∧ EL W1 a L ∧ Below w.heap.size w W1 ∧ X < W1.heap.size) := Lib.hid ⟨HA.out.1.chg (l := []) (Chg.of_fresh bb) (by simp), HA.out.2.1.below bb, HA.out.2.2.1.trans (bb.mono HA.out.2.2.1.size), Nat.lt_of_lt_of_le HA.out.2.2.2 bb.size⟩; have hb1s0 := HB1.out.1.cell (i := 0) rfl; have hb1s1 := HB1.out.1.cell (i := 1) rfl; have hb1s2 := HB1.out.1.cell (i := 2) rfl; have hb1s3 := HB1.out.1.cell (i := 3) rfl; have hb1s4 := HB1.out.1.cell (i := 4) rfl; have hb1s5 := HB1.out.1.cell (i := 5) rfl; clear bb HA))
    go_ret2
    obtain ⟨rfl, rfl⟩ := HR.out
    exact ⟨rfl, HB1.out.2.2.1⟩
  | true =>
    cases hg : Co.goodB l r i o q v with
    | false =>
      have HG := Lib.hid hg
      clear hg
      have HR : Hid (0 = bb0 ∧ false = okb) := Lib.hid (by
        have h := HRES.out
        rw [if_neg (by rw [HG.out]; simp)] at h
        injection h with h1 h2
        exact ⟨h1, h2⟩)
      go_enter Try.func21, Try.ntmps21
      go_upto_region 1 with fail
      revert H0
      generalize (w.alloc (.cells #[.int .i64 l, .int .i64 r, .int .i64 i, .int .i64 o, .int .i64 q, .int .i64 v] 54)) = W0
      intro H0
      have HA := H0
      clear H0
      go_wp2_with (first
        | (go_at_call 23; (with_reducible refine (gr_begin2 a len cap L HL.out.1 (by omega) t true HL.out.2 _ HA.out.2.1).mono ?_); rintro r4 W1 ⟨rfl, bb⟩; have HB1 : Hid (Blk W1 X [.int .i64 l, .int .i64 r, .int .i64 i, .int .i64 o, .int .i64 q, .int .i64 v] 54 ∧ EL W1 a L ∧ Below w.heap.size w W1 ∧ X < W1.heap.size) := Lib.hid ⟨HA.out.1.chg (l := []) (Chg.of_fresh bb) (by simp), HA.out.2.1.below bb, HA.out.2.2.1.trans (bb.mono HA.out.2.2.1.size), Nat.lt_of_lt_of_le HA.out.2.2.2 bb.size⟩; have hb1s0 := HB1.out.1.cell (i := 0) rfl; have hb1s1 := HB1.out.1.cell (i := 1) rfl; have hb1s2 := HB1.out.1.cell (i := 2) rfl; have hb1s3 := HB1.out.1.cell (i := 3) rfl; have hb1s4 := HB1.out.1.cell (i := 4) rfl; have hb1s5 := HB1.out.1.cell (i := 5) rfl; clear bb HA)
        | (go_at_call 46; (with_reducible refine (good_any l r i o q v _).mono ?_); rintro r4 W2 ⟨rfl, bb⟩; have HC1 : Hid (Blk W2 X [.int .i64 l, .int .i64 r, .int .i64 i, .int .i64 o, .int .i64 q, .int .i64 v] 54 ∧ EL W2 a L ∧ Below w.heap.size w W2 ∧ X < W2.heap.size) := Lib.hid ⟨HB1.out.1.chg (l := []) (Chg.of_fresh bb) (by simp), HB1.out.2.1.below bb, HB1.out.2.2.1.trans (bb.mono HB1.out.2.2.1.size), Nat.lt_of_lt_of_le HB1.out.2.2.2 bb.size⟩; have hc1s0 := HC1.out.1.cell (i := 0) rfl; have hc1s1 := HC1.out.1.cell (i := 1) rfl; have hc1s2 := HC1.out.1.cell (i := 2) rfl; have hc1s3 := HC1.out.1.cell (i := 3) rfl; have hc1s4 := HC1.out.1.cell (i := 4) rfl; have hc1s5 := HC1.out.1.cell (i := 5) rfl; clear bb HB1; clear hb1s0 hb1s1 hb1s2 hb1s3 hb1s4 hb1s5; rw [HG.out]))
      go_ret2
      obtain ⟨rfl, rfl⟩ := HR.out
      exact ⟨rfl, HC1.out.2.2.1⟩
    | true =>
      have HG := Lib.hid hg
      clear hg
      by_cases h1 : each < 1
      · have HR : Hid (0 = bb0 ∧ false = okb) := Lib.hid (by
          have h := HRES.out
          rw [if_neg (fun h => h.2.2.1 h1)] at h
          injection h with h1 h2
          exact ⟨h1, h2⟩)
        go_enter Try.func21, Try.ntmps21
        go_upto_region 1 with fail
        revert H0
        generalize (w.alloc (.cells #[.int .i64 l, .int .i64 r, .int .i64 i, .int .i64 o, .int .i64 q, .int .i64 v] 54)) = W0
        intro H0
        have HA := H0
        clear H0
        go_wp2_with (first
          | (go_at_call 23; (with_reducible refine (gr_begin2 a len cap L HL.out.1 (by omega) t true HL.out.2 _ HA.out.2.1).mono ?_); rintro r4 W1 ⟨rfl, bb⟩; have HB1 : Hid (Blk W1 X [.int .i64 l, .int .i64 r, .int .i64 i, .int .i64 o, .int .i64 q, .int .i64 v] 54 ∧ EL W1 a L ∧ Below w.heap.size w W1 ∧ X < W1.heap.size) := Lib.hid ⟨HA.out.1.chg (l := []) (Chg.of_fresh bb) (by simp), HA.out.2.1.below bb, HA.out.2.2.1.trans (bb.mono HA.out.2.2.1.size), Nat.lt_of_lt_of_le HA.out.2.2.2 bb.size⟩; have hb1s0 := HB1.out.1.cell (i := 0) rfl; have hb1s1 := HB1.out.1.cell (i := 1) rfl; have hb1s2 := HB1.out.1.cell (i := 2) rfl; have hb1s3 := HB1.out.1.cell (i := 3) rfl; have hb1s4 := HB1.out.1.cell (i := 4) rfl; have hb1s5 := HB1.out.1.cell (i := 5) rfl; clear bb HA)
          | (go_at_call 46; (with_reducible refine (good_any l r i o q v _).mono ?_); rintro r4 W2 ⟨rfl, bb⟩; have HC1 : Hid (Blk W2 X [.int .i64 l, .int .i64 r, .int .i64 i, .int .i64 o, .int .i64 q, .int .i64 v] 54 ∧ EL W2 a L ∧ Below w.heap.size w W2 ∧ X < W2.heap.size) := Lib.hid ⟨HB1.out.1.chg (l := []) (Chg.of_fresh bb) (by simp), HB1.out.2.1.below bb, HB1.out.2.2.1.trans (bb.mono HB1.out.2.2.1.size), Nat.lt_of_lt_of_le HB1.out.2.2.2 bb.size⟩; have hc1s0 := HC1.out.1.cell (i := 0) rfl; have hc1s1 := HC1.out.1.cell (i := 1) rfl; have hc1s2 := HC1.out.1.cell (i := 2) rfl; have hc1s3 := HC1.out.1.cell (i := 3) rfl; have hc1s4 := HC1.out.1.cell (i := 4) rfl; have hc1s5 := HC1.out.1.cell (i := 5) rfl; clear bb HB1; clear hb1s0 hb1s1 hb1s2 hb1s3 hb1s4 hb1s5; rw [HG.out]))
        go_ret2
        obtain ⟨rfl, rfl⟩ := HR.out
        exact ⟨rfl, HC1.out.2.2.1⟩
      · by_cases h2 : u = 9223372036854775807
        · have HR : Hid (0 = bb0 ∧ false = okb) := Lib.hid (by
            have h := HRES.out
            rw [if_neg (fun h => h.2.2.2.1 h2)] at h
            injection h with h1 h2
            exact ⟨h1, h2⟩)
          go_enter Try.func21, Try.ntmps21
          go_upto_region 1 with fail
          revert H0
          generalize (w.alloc (.cells #[.int .i64 l, .int .i64 r, .int .i64 i, .int .i64 o, .int .i64 q, .int .i64 v] 54)) = W0
          intro H0
          have HA := H0
          clear H0
          subst h2
          go_wp2_with (first
            | (go_at_call 23; (with_reducible refine (gr_begin2 a len cap L HL.out.1 (by omega) t true HL.out.2 _ HA.out.2.1).mono ?_); rintro r4 W1 ⟨rfl, bb⟩; have HB1 : Hid (Blk W1 X [.int .i64 l, .int .i64 r, .int .i64 i, .int .i64 o, .int .i64 q, .int .i64 v] 54 ∧ EL W1 a L ∧ Below w.heap.size w W1 ∧ X < W1.heap.size) := Lib.hid ⟨HA.out.1.chg (l := []) (Chg.of_fresh bb) (by simp), HA.out.2.1.below bb, HA.out.2.2.1.trans (bb.mono HA.out.2.2.1.size), Nat.lt_of_lt_of_le HA.out.2.2.2 bb.size⟩; have hb1s0 := HB1.out.1.cell (i := 0) rfl; have hb1s1 := HB1.out.1.cell (i := 1) rfl; have hb1s2 := HB1.out.1.cell (i := 2) rfl; have hb1s3 := HB1.out.1.cell (i := 3) rfl; have hb1s4 := HB1.out.1.cell (i := 4) rfl; have hb1s5 := HB1.out.1.cell (i := 5) rfl; clear bb HA)
            | (go_at_call 46; (with_reducible refine (good_any l r i o q v _).mono ?_); rintro r4 W2 ⟨rfl, bb⟩; have HC1 : Hid (Blk W2 X [.int .i64 l, .int .i64 r, .int .i64 i, .int .i64 o, .int .i64 q, .int .i64 v] 54 ∧ EL W2 a L ∧ Below w.heap.size w W2 ∧ X < W2.heap.size) := Lib.hid ⟨HB1.out.1.chg (l := []) (Chg.of_fresh bb) (by simp), HB1.out.2.1.below bb, HB1.out.2.2.1.trans (bb.mono HB1.out.2.2.1.size), Nat.lt_of_lt_of_le HB1.out.2.2.2 bb.size⟩; have hc1s0 := HC1.out.1.cell (i := 0) rfl; have hc1s1 := HC1.out.1.cell (i := 1) rfl; have hc1s2 := HC1.out.1.cell (i := 2) rfl; have hc1s3 := HC1.out.1.cell (i := 3) rfl; have hc1s4 := HC1.out.1.cell (i := 4) rfl; have hc1s5 := HC1.out.1.cell (i := 5) rfl; clear bb HB1; clear hb1s0 hb1s1 hb1s2 hb1s3 hb1s4 hb1s5; rw [HG.out])
            | (go_at_call 47; (with_reducible refine (until_any l r i o q v t each ht he _).mono ?_); rintro r4 W3 ⟨rfl, bb⟩; have HD1 : Hid (Blk W3 X [.int .i64 l, .int .i64 r, .int .i64 i, .int .i64 o, .int .i64 q, .int .i64 v] 54 ∧ EL W3 a L ∧ Below w.heap.size w W3 ∧ X < W3.heap.size) := Lib.hid ⟨HC1.out.1.chg (l := []) (Chg.of_fresh bb) (by simp), HC1.out.2.1.below bb, HC1.out.2.2.1.trans (bb.mono HC1.out.2.2.1.size), Nat.lt_of_lt_of_le HC1.out.2.2.2 bb.size⟩; have hd1s0 := HD1.out.1.cell (i := 0) rfl; have hd1s1 := HD1.out.1.cell (i := 1) rfl; have hd1s2 := HD1.out.1.cell (i := 2) rfl; have hd1s3 := HD1.out.1.cell (i := 3) rfl; have hd1s4 := HD1.out.1.cell (i := 4) rfl; have hd1s5 := HD1.out.1.cell (i := 5) rfl; clear bb HC1; clear hc1s0 hc1s1 hc1s2 hc1s3 hc1s4 hc1s5; rw [HU.out]))
          go_ret2
          obtain ⟨rfl, rfl⟩ := HR.out
          exact ⟨rfl, HD1.out.2.2.1⟩
        · have u1 : (u == 9223372036854775807) = false := by simp [h2]
          by_cases h3 : c < u
          · have HR : Hid (0 = bb0 ∧ false = okb) := Lib.hid (by
              have h := HRES.out
              rw [if_neg (fun h => h.2.2.2.2 h3)] at h
              injection h with h1 h2
              exact ⟨h1, h2⟩)
            go_enter Try.func21, Try.ntmps21
            go_upto_region 1 with fail
            revert H0
            generalize (w.alloc (.cells #[.int .i64 l, .int .i64 r, .int .i64 i, .int .i64 o, .int .i64 q, .int .i64 v] 54)) = W0
            intro H0
            have HA := H0
            clear H0
            go_wp2_with (first
              | (go_at_call 23; (with_reducible refine (gr_begin2 a len cap L HL.out.1 (by omega) t true HL.out.2 _ HA.out.2.1).mono ?_); rintro r4 W1 ⟨rfl, bb⟩; have HB1 : Hid (Blk W1 X [.int .i64 l, .int .i64 r, .int .i64 i, .int .i64 o, .int .i64 q, .int .i64 v] 54 ∧ EL W1 a L ∧ Below w.heap.size w W1 ∧ X < W1.heap.size) := Lib.hid ⟨HA.out.1.chg (l := []) (Chg.of_fresh bb) (by simp), HA.out.2.1.below bb, HA.out.2.2.1.trans (bb.mono HA.out.2.2.1.size), Nat.lt_of_lt_of_le HA.out.2.2.2 bb.size⟩; have hb1s0 := HB1.out.1.cell (i := 0) rfl; have hb1s1 := HB1.out.1.cell (i := 1) rfl; have hb1s2 := HB1.out.1.cell (i := 2) rfl; have hb1s3 := HB1.out.1.cell (i := 3) rfl; have hb1s4 := HB1.out.1.cell (i := 4) rfl; have hb1s5 := HB1.out.1.cell (i := 5) rfl; clear bb HA)
              | (go_at_call 46; (with_reducible refine (good_any l r i o q v _).mono ?_); rintro r4 W2 ⟨rfl, bb⟩; have HC1 : Hid (Blk W2 X [.int .i64 l, .int .i64 r, .int .i64 i, .int .i64 o, .int .i64 q, .int .i64 v] 54 ∧ EL W2 a L ∧ Below w.heap.size w W2 ∧ X < W2.heap.size) := Lib.hid ⟨HB1.out.1.chg (l := []) (Chg.of_fresh bb) (by simp), HB1.out.2.1.below bb, HB1.out.2.2.1.trans (bb.mono HB1.out.2.2.1.size), Nat.lt_of_lt_of_le HB1.out.2.2.2 bb.size⟩; have hc1s0 := HC1.out.1.cell (i := 0) rfl; have hc1s1 := HC1.out.1.cell (i := 1) rfl; have hc1s2 := HC1.out.1.cell (i := 2) rfl; have hc1s3 := HC1.out.1.cell (i := 3) rfl; have hc1s4 := HC1.out.1.cell (i := 4) rfl; have hc1s5 := HC1.out.1.cell (i := 5) rfl; clear bb HB1; clear hb1s0 hb1s1 hb1s2 hb1s3 hb1s4 hb1s5; rw [HG.out])
              | (go_at_call 47; (with_reducible refine (until_any l r i o q v t each ht he _).mono ?_); rintro r4 W3 ⟨rfl, bb⟩; have HD1 : Hid (Blk W3 X [.int .i64 l, .int .i64 r, .int .i64 i, .int .i64 o, .int .i64 q, .int .i64 v] 54 ∧ EL W3 a L ∧ Below w.heap.size w W3 ∧ X < W3.heap.size) := Lib.hid ⟨HC1.out.1.chg (l := []) (Chg.of_fresh bb) (by simp), HC1.out.2.1.below bb, HC1.out.2.2.1.trans (bb.mono HC1.out.2.2.1.size), Nat.lt_of_lt_of_le HC1.out.2.2.2 bb.size⟩; have hd1s0 := HD1.out.1.cell (i := 0) rfl; have hd1s1 := HD1.out.1.cell (i := 1) rfl; have hd1s2 := HD1.out.1.cell (i := 2) rfl; have hd1s3 := HD1.out.1.cell (i := 3) rfl; have hd1s4 := HD1.out.1.cell (i := 4) rfl; have hd1s5 := HD1.out.1.cell (i := 5) rfl; clear bb HC1; clear hc1s0 hc1s1 hc1s2 hc1s3 hc1s4 hc1s5; rw [HU.out])
              | (go_at_call 48; (with_reducible refine (gr_last a len cap L HL.out.1 hlm c HCK.out _ HD1.out.2.1).mono ?_); rintro r4 W4 ⟨rfl, bb⟩; have HE1 : Hid (Blk W4 X [.int .i64 l, .int .i64 r, .int .i64 i, .int .i64 o, .int .i64 q, .int .i64 v] 54 ∧ EL W4 a L ∧ Below w.heap.size w W4 ∧ X < W4.heap.size) := Lib.hid ⟨HD1.out.1.chg (l := []) (Chg.of_fresh bb) (by simp), HD1.out.2.1.below bb, HD1.out.2.2.1.trans (bb.mono HD1.out.2.2.1.size), Nat.lt_of_lt_of_le HD1.out.2.2.2 bb.size⟩; have he1s0 := HE1.out.1.cell (i := 0) rfl; have he1s1 := HE1.out.1.cell (i := 1) rfl; have he1s2 := HE1.out.1.cell (i := 2) rfl; have he1s3 := HE1.out.1.cell (i := 3) rfl; have he1s4 := HE1.out.1.cell (i := 4) rfl; have he1s5 := HE1.out.1.cell (i := 5) rfl; clear bb HD1; clear hd1s0 hd1s1 hd1s2 hd1s3 hd1s4 hd1s5))
            go_ret2
            obtain ⟨rfl, rfl⟩ := HR.out
            exact ⟨rfl, HE1.out.2.2.1⟩
          · have HR : Hid (u = bb0 ∧ true = okb) := Lib.hid (by
              have h := HRES.out
              rw [if_pos ⟨rfl, HG.out, h1, h2, h3⟩] at h
              injection h with h1 h2
              exact ⟨h1, h2⟩)
            go_enter Try.func21, Try.ntmps21
            go_upto_region 1 with fail
            revert H0
            generalize (w.alloc (.cells #[.int .i64 l, .int .i64 r, .int .i64 i, .int .i64 o, .int .i64 q, .int .i64 v] 54)) = W0
            intro H0
            have HA := H0
            clear H0
            go_wp2_with (first
              | (go_at_call 23; (with_reducible refine (gr_begin2 a len cap L HL.out.1 (by omega) t true HL.out.2 _ HA.out.2.1).mono ?_); rintro r4 W1 ⟨rfl, bb⟩; have HB1 : Hid (Blk W1 X [.int .i64 l, .int .i64 r, .int .i64 i, .int .i64 o, .int .i64 q, .int .i64 v] 54 ∧ EL W1 a L ∧ Below w.heap.size w W1 ∧ X < W1.heap.size) := Lib.hid ⟨HA.out.1.chg (l := []) (Chg.of_fresh bb) (by simp), HA.out.2.1.below bb, HA.out.2.2.1.trans (bb.mono HA.out.2.2.1.size), Nat.lt_of_lt_of_le HA.out.2.2.2 bb.size⟩; have hb1s0 := HB1.out.1.cell (i := 0) rfl; have hb1s1 := HB1.out.1.cell (i := 1) rfl; have hb1s2 := HB1.out.1.cell (i := 2) rfl; have hb1s3 := HB1.out.1.cell (i := 3) rfl; have hb1s4 := HB1.out.1.cell (i := 4) rfl; have hb1s5 := HB1.out.1.cell (i := 5) rfl; clear bb HA)
              | (go_at_call 46; (with_reducible refine (good_any l r i o q v _).mono ?_); rintro r4 W2 ⟨rfl, bb⟩; have HC1 : Hid (Blk W2 X [.int .i64 l, .int .i64 r, .int .i64 i, .int .i64 o, .int .i64 q, .int .i64 v] 54 ∧ EL W2 a L ∧ Below w.heap.size w W2 ∧ X < W2.heap.size) := Lib.hid ⟨HB1.out.1.chg (l := []) (Chg.of_fresh bb) (by simp), HB1.out.2.1.below bb, HB1.out.2.2.1.trans (bb.mono HB1.out.2.2.1.size), Nat.lt_of_lt_of_le HB1.out.2.2.2 bb.size⟩; have hc1s0 := HC1.out.1.cell (i := 0) rfl; have hc1s1 := HC1.out.1.cell (i := 1) rfl; have hc1s2 := HC1.out.1.cell (i := 2) rfl; have hc1s3 := HC1.out.1.cell (i := 3) rfl; have hc1s4 := HC1.out.1.cell (i := 4) rfl; have hc1s5 := HC1.out.1.cell (i := 5) rfl; clear bb HB1; clear hb1s0 hb1s1 hb1s2 hb1s3 hb1s4 hb1s5; rw [HG.out])
              | (go_at_call 47; (with_reducible refine (until_any l r i o q v t each ht he _).mono ?_); rintro r4 W3 ⟨rfl, bb⟩; have HD1 : Hid (Blk W3 X [.int .i64 l, .int .i64 r, .int .i64 i, .int .i64 o, .int .i64 q, .int .i64 v] 54 ∧ EL W3 a L ∧ Below w.heap.size w W3 ∧ X < W3.heap.size) := Lib.hid ⟨HC1.out.1.chg (l := []) (Chg.of_fresh bb) (by simp), HC1.out.2.1.below bb, HC1.out.2.2.1.trans (bb.mono HC1.out.2.2.1.size), Nat.lt_of_lt_of_le HC1.out.2.2.2 bb.size⟩; have hd1s0 := HD1.out.1.cell (i := 0) rfl; have hd1s1 := HD1.out.1.cell (i := 1) rfl; have hd1s2 := HD1.out.1.cell (i := 2) rfl; have hd1s3 := HD1.out.1.cell (i := 3) rfl; have hd1s4 := HD1.out.1.cell (i := 4) rfl; have hd1s5 := HD1.out.1.cell (i := 5) rfl; clear bb HC1; clear hc1s0 hc1s1 hc1s2 hc1s3 hc1s4 hc1s5; rw [HU.out])
              | (go_at_call 48; (with_reducible refine (gr_last a len cap L HL.out.1 hlm c HCK.out _ HD1.out.2.1).mono ?_); rintro r4 W4 ⟨rfl, bb⟩; have HE1 : Hid (Blk W4 X [.int .i64 l, .int .i64 r, .int .i64 i, .int .i64 o, .int .i64 q, .int .i64 v] 54 ∧ EL W4 a L ∧ Below w.heap.size w W4 ∧ X < W4.heap.size) := Lib.hid ⟨HD1.out.1.chg (l := []) (Chg.of_fresh bb) (by simp), HD1.out.2.1.below bb, HD1.out.2.2.1.trans (bb.mono HD1.out.2.2.1.size), Nat.lt_of_lt_of_le HD1.out.2.2.2 bb.size⟩; have he1s0 := HE1.out.1.cell (i := 0) rfl; have he1s1 := HE1.out.1.cell (i := 1) rfl; have he1s2 := HE1.out.1.cell (i := 2) rfl; have he1s3 := HE1.out.1.cell (i := 3) rfl; have he1s4 := HE1.out.1.cell (i := 4) rfl; have he1s5 := HE1.out.1.cell (i := 5) rfl; clear bb HD1; clear hd1s0 hd1s1 hd1s2 hd1s3 hd1s4 hd1s5))
            go_ret2
            obtain ⟨rfl, rfl⟩ := HR.out
            exact ⟨rfl, HE1.out.2.2.1⟩
end Go.Proofs.Ytdchedkhlfmpeaa
