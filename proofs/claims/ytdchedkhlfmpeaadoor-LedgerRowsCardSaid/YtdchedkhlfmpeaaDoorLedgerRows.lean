/- P38.1, P38.3: begun. For every list of events (its first 18, bytes cut): the rows, any one's row, and all as text are as the document says. ! tab si -/
import Derived.Test.YtdchedkhlfmpeaaDoorOpen
import Derived.Test.YtdchedkhlfmpeaaDoorCards
import Derived.Test.YtdchedkhlfmpeaaDoorTie
import Derived.WalkKit
import Derived.Deep.DeepHandedRow
import Derived.Shelf.Vars
import Derived.Stop.LaidErr
import Derived.Lib.LaidTab
import Derived.ProofKit
import Derived.OpenShut
import Derived.Test.YtdchedkhlfmpeaaDoorLeC
import Derived.Test.YtdchedkhlfmpeaaDoorLeC
import Derived.Test.YtdchedkhlfmpeaaDoorLeC
import Derived.Test.YtdchedkhlfmpeaaDoorLeC
import Derived.Test.YtdchedkhlfmpeaaDoorClass
namespace Go.Proofs.YtdchedkhlfmpeaaDoor.ledgerRows
open Go.Joins Go.ChangeShapes Go.WideShapes Go.ChangeAt Go.RowKit Go.Deep
open Go.ChangeMaps (open_string)
set_option linter.unusedSimpArgs false
set_option linter.unusedVariables false

/-- What the law keeps: the events, both lists of rows. -/
structure SQ (w W : World) (g1 c1 : Nat) (L : List Ev) (r3 : Option Addr) (n3 c3 : Nat) (C3 : List Value) (r4 : Option Addr) (n4 c4 : Nat) (C4 : List Value) : Prop where
  ev : Rn W g1 c1 12 (evs L) 46
  r1 : RM W w.heap.size r3 n3 c3 10 C3 31
  r2 : RM W w.heap.size r4 n4 c4 10 C4 32
  be : Below w.heap.size w W
theorem SQ.below {w W W' : World} {g1 c1 : Nat} {L : List Ev} {r3 : Option Addr} {n3 c3 : Nat} {C3 : List Value} {r4 : Option Addr} {n4 c4 : Nat} {C4 : List Value} (h : SQ w W g1 c1 L r3 n3 c3 C3 r4 n4 c4 C4) (k : Below W.heap.size W W') : SQ w W' g1 c1 L r3 n3 c3 C3 r4 n4 c4 C4 :=
  ⟨h.ev.chg (l := []) (Chg.of_fresh k) (by simp), h.r1.chg (l := []) (Chg.of_fresh k) (by simp), h.r2.chg (l := []) (Chg.of_fresh k) (by simp), h.be.trans (k.mono h.be.size)⟩
theorem SQ.tab {w W : World} {g1 c1 : Nat} {L : List Ev} {r3 : Option Addr} {n3 c3 : Nat} {C3 : List Value} {r4 : Option Addr} {n4 c4 : Nat} {C4 : List Value} (h : SQ w W g1 c1 L r3 n3 c3 C3 r4 n4 c4 C4) (ht : Lib.TabIs Tryd.prog w "internal/strconv.uint64pow10" .u64 Lib.pow10Tab) : Lib.TabIs Tryd.prog W "internal/strconv.uint64pow10" .u64 Lib.pow10Tab := tab_below h.be ht
theorem SQ.si {w W : World} {g1 c1 : Nat} {L : List Ev} {r3 : Option Addr} {n3 c3 : Nat} {C3 : List Value} {r4 : Option Addr} {n4 c4 : Nat} {C4 : List Value} (h : SQ w W g1 c1 L r3 n3 c3 C3 r4 n4 c4 C4) (ht : SI w) : SI W := ht.below h.be
theorem SQ.size {w W : World} {g1 c1 : Nat} {L : List Ev} {r3 : Option Addr} {n3 c3 : Nat} {C3 : List Value} {r4 : Option Addr} {n4 c4 : Nat} {C4 : List Value} (h : SQ w W g1 c1 L r3 n3 c3 C3 r4 n4 c4 C4) : w.heap.size ≤ W.heap.size := h.be.size
theorem SQ.s20 {w W : World} {g1 c1 : Nat} {L : List Ev} {g3 n c3 : Nat} {g4 c4 : Nat} {R : List Le.R} (h : SQ w W g1 c1 L (some ⟨g3, 0, none⟩) n c3 (Le.cs R) (some ⟨g4, 0, none⟩) n c4 (Le.cs R)) (hn : R.length = n) {j : Nat} {x0 x1 x2 x3 x4 x5 x6 x7 x8 x9 : Int} (hx : R[j]? = some ⟨x0, x1, x2, x3, x4, x5, x6, x7, x8, x9⟩) : W.cell? ⟨g3, j * 10, none⟩ = some (.int .i64 x0) ∧ W.cell? ⟨g3, j * 10 + 1, none⟩ = some (.int .i64 x1) ∧ W.cell? ⟨g3, j * 10 + 2, none⟩ = some (.int .i64 x2) ∧ W.cell? ⟨g3, j * 10 + 3, none⟩ = some (.int .i64 x3) ∧ W.cell? ⟨g3, j * 10 + 4, none⟩ = some (.int .i64 x4) ∧ W.cell? ⟨g3, j * 10 + 5, none⟩ = some (.int .i64 x5) ∧ W.cell? ⟨g3, j * 10 + 6, none⟩ = some (.int .i64 x6) ∧ W.cell? ⟨g3, j * 10 + 7, none⟩ = some (.int .i64 x7) ∧ W.cell? ⟨g3, j * 10 + 8, none⟩ = some (.int .i64 x8) ∧ W.cell? ⟨g3, j * 10 + 9, none⟩ = some (.int .i64 x9) ∧ W.cell? ⟨g4, j * 10, none⟩ = some (.int .i64 x0) ∧ W.cell? ⟨g4, j * 10 + 1, none⟩ = some (.int .i64 x1) ∧ W.cell? ⟨g4, j * 10 + 2, none⟩ = some (.int .i64 x2) ∧ W.cell? ⟨g4, j * 10 + 3, none⟩ = some (.int .i64 x3) ∧ W.cell? ⟨g4, j * 10 + 4, none⟩ = some (.int .i64 x4) ∧ W.cell? ⟨g4, j * 10 + 5, none⟩ = some (.int .i64 x5) ∧ W.cell? ⟨g4, j * 10 + 6, none⟩ = some (.int .i64 x6) ∧ W.cell? ⟨g4, j * 10 + 7, none⟩ = some (.int .i64 x7) ∧ W.cell? ⟨g4, j * 10 + 8, none⟩ = some (.int .i64 x8) ∧ W.cell? ⟨g4, j * 10 + 9, none⟩ = some (.int .i64 x9) := by
  obtain ⟨ga, ea, _, a0, a1, a2, a3, a4, a5, a6, a7, a8, a9⟩ := Le.at10 h.r1 hn hx
  obtain ⟨gb, eb, _, b0, b1, b2, b3, b4, b5, b6, b7, b8, b9⟩ := Le.at10r h.r2 hn hx
  injection ea with ea
  injection ea with ea _ _
  injection eb with eb
  injection eb with eb _ _
  subst ea eb
  exact ⟨a0, a1, a2, a3, a4, a5, a6, a7, a8, a9, b0, b1, b2, b3, b4, b5, b6, b7, b8, b9⟩
theorem Le.ok_iff (i : Int) (L : List Ev) : (Pj.lifeD i L).2.2.2.2 = true ↔ i ∈ Ev.ids L := by
  refine ⟨fun h => ?_, le_life_ok⟩
  rw [(Ev.ids_srt L).2]
  apply Classical.byContradiction
  intro hn
  unfold Pj.lifeD at h
  rw [(Cp.life_iff i L).2 hn] at h
  cases h
theorem s14t {W : World} {X9 g3 g4 q : Nat} {y0 y1 y2 y3 y4 y5 y6 y7 y8 y9 : Int} {T : TypeId} (h : Blk W X9 [.int .i64 y0, .int .i64 y1, .int .i64 y2, .int .i64 y3, .int .i64 y4, .int .i64 y5, .int .i64 y6, .int .i64 y7, .int .i64 y8, .int .i64 y9] T) (k : W.cell? ⟨g3, q * 10, none⟩ = some (.int .i64 y0) ∧ W.cell? ⟨g3, q * 10 + 1, none⟩ = some (.int .i64 y1) ∧ W.cell? ⟨g3, q * 10 + 2, none⟩ = some (.int .i64 y2) ∧ W.cell? ⟨g3, q * 10 + 3, none⟩ = some (.int .i64 y3) ∧ W.cell? ⟨g3, q * 10 + 4, none⟩ = some (.int .i64 y4) ∧ W.cell? ⟨g3, q * 10 + 5, none⟩ = some (.int .i64 y5) ∧ W.cell? ⟨g3, q * 10 + 6, none⟩ = some (.int .i64 y6) ∧ W.cell? ⟨g3, q * 10 + 7, none⟩ = some (.int .i64 y7) ∧ W.cell? ⟨g3, q * 10 + 8, none⟩ = some (.int .i64 y8) ∧ W.cell? ⟨g3, q * 10 + 9, none⟩ = some (.int .i64 y9) ∧ W.cell? ⟨g4, q * 10, none⟩ = some (.int .i64 y0) ∧ W.cell? ⟨g4, q * 10 + 1, none⟩ = some (.int .i64 y1) ∧ W.cell? ⟨g4, q * 10 + 2, none⟩ = some (.int .i64 y2) ∧ W.cell? ⟨g4, q * 10 + 3, none⟩ = some (.int .i64 y3) ∧ W.cell? ⟨g4, q * 10 + 4, none⟩ = some (.int .i64 y4) ∧ W.cell? ⟨g4, q * 10 + 5, none⟩ = some (.int .i64 y5) ∧ W.cell? ⟨g4, q * 10 + 6, none⟩ = some (.int .i64 y6) ∧ W.cell? ⟨g4, q * 10 + 7, none⟩ = some (.int .i64 y7) ∧ W.cell? ⟨g4, q * 10 + 8, none⟩ = some (.int .i64 y8) ∧ W.cell? ⟨g4, q * 10 + 9, none⟩ = some (.int .i64 y9)) : W.cell? ⟨X9, 0, none⟩ = some (.int .i64 y0) ∧ W.cell? ⟨X9, 1, none⟩ = some (.int .i64 y1) ∧ W.cell? ⟨X9, 2, none⟩ = some (.int .i64 y2) ∧ W.cell? ⟨X9, 3, none⟩ = some (.int .i64 y3) ∧ W.cell? ⟨X9, 4, none⟩ = some (.int .i64 y4) ∧ W.cell? ⟨X9, 5, none⟩ = some (.int .i64 y5) ∧ W.cell? ⟨X9, 6, none⟩ = some (.int .i64 y6) ∧ W.cell? ⟨X9, 7, none⟩ = some (.int .i64 y7) ∧ W.cell? ⟨X9, 8, none⟩ = some (.int .i64 y8) ∧ W.cell? ⟨X9, 9, none⟩ = some (.int .i64 y9) ∧ W.cell? ⟨g4, q * 10, none⟩ = some (.int .i64 y0) ∧ W.cell? ⟨g4, q * 10 + 1, none⟩ = some (.int .i64 y1) ∧ W.cell? ⟨g4, q * 10 + 2, none⟩ = some (.int .i64 y2) ∧ W.cell? ⟨g4, q * 10 + 3, none⟩ = some (.int .i64 y3) ∧ W.cell? ⟨g4, q * 10 + 4, none⟩ = some (.int .i64 y4) ∧ W.cell? ⟨g4, q * 10 + 5, none⟩ = some (.int .i64 y5) ∧ W.cell? ⟨g4, q * 10 + 6, none⟩ = some (.int .i64 y6) ∧ W.cell? ⟨g4, q * 10 + 7, none⟩ = some (.int .i64 y7) ∧ W.cell? ⟨g4, q * 10 + 8, none⟩ = some (.int .i64 y8) ∧ W.cell? ⟨g4, q * 10 + 9, none⟩ = some (.int .i64 y9) := by
  obtain ⟨b0, b1, b2, b3, b4, b5, b6, b7, b8, b9, b10, b11, b12, b13, b14, b15, b16, b17, b18, b19⟩ := k
  exact ⟨h.cell (i := 0) rfl, h.cell (i := 1) rfl, h.cell (i := 2) rfl, h.cell (i := 3) rfl, h.cell (i := 4) rfl, h.cell (i := 5) rfl, h.cell (i := 6) rfl, h.cell (i := 7) rfl, h.cell (i := 8) rfl, h.cell (i := 9) rfl, b10, b11, b12, b13, b14, b15, b16, b17, b18, b19⟩
theorem s14f {W : World} {X9 : Nat} {T : TypeId} (h : Blk W X9 [.int .i64 0, .int .i64 0, .int .i64 0, .int .i64 0, .int .i64 0, .int .i64 0, .int .i64 0, .int .i64 0, .int .i64 0, .int .i64 0] T) : W.cell? ⟨X9, 0, none⟩ = some (.int .i64 0) ∧ W.cell? ⟨X9, 1, none⟩ = some (.int .i64 0) ∧ W.cell? ⟨X9, 2, none⟩ = some (.int .i64 0) ∧ W.cell? ⟨X9, 3, none⟩ = some (.int .i64 0) ∧ W.cell? ⟨X9, 4, none⟩ = some (.int .i64 0) ∧ W.cell? ⟨X9, 5, none⟩ = some (.int .i64 0) ∧ W.cell? ⟨X9, 6, none⟩ = some (.int .i64 0) ∧ W.cell? ⟨X9, 7, none⟩ = some (.int .i64 0) ∧ W.cell? ⟨X9, 8, none⟩ = some (.int .i64 0) ∧ W.cell? ⟨X9, 9, none⟩ = some (.int .i64 0) := ⟨h.cell (i := 0) rfl, h.cell (i := 1) rfl, h.cell (i := 2) rfl, h.cell (i := 3) rfl, h.cell (i := 4) rfl, h.cell (i := 5) rfl, h.cell (i := 6) rfl, h.cell (i := 7) rfl, h.cell (i := 8) rfl, h.cell (i := 9) rfl⟩
theorem le_of10t (a : Option Addr) (len cap : Nat) (L : List Ev) (hl : L.length = len) (hlm : len ≤ 10000) (hlc : len ≤ cap) (hsum : Ev.sum L ≤ 1000000) (id i2 sc fr : Int) (T : List Ev) (h : Pj.lifeD id L = (i2, sc, fr, T, true)) (x0 x1 x2 x3 x4 x5 x6 x7 x8 x9 : Int) (hX : Le.mk id sc fr T = ⟨x0, x1, x2, x3, x4, x5, x6, x7, x8, x9⟩) (w : World) (HE : EL w a L) :
    Calls Tryd.prog 12 #[.slice a len cap, .int .i64 id] w fun e w' => e = .returned (.tuple #[.agg #[.int .i64 x0, .int .i64 x1, .int .i64 x2, .int .i64 x3, .int .i64 x4, .int .i64 x5, .int .i64 x6, .int .i64 x7, .int .i64 x8, .int .i64 x9], .bool true]) ∧ Below w.heap.size w w' := le_of10 a len cap L hl hlm hlc hsum id i2 sc fr T true h x0 x1 x2 x3 x4 x5 x6 x7 x8 x9 (by rw [if_pos rfl]; exact hX) w HE
/-- Where a number stands among the first j of a list, the last place; -1. -/
def Le.at (id : Int) (D : List Int) : Nat → Int
  | 0 => -1
  | j + 1 => if D[j]? = some id then (j : Int) else Le.at id D j
theorem Le.at_spec (id : Int) (D : List Int) : ∀ j, (Le.at id D j = -1 ∧ ∀ q, q < j → D[q]? ≠ some id) ∨ ∃ q : Nat, q < j ∧ Le.at id D j = (q : Int) ∧ D[q]? = some id
  | 0 => Or.inl ⟨rfl, fun q h => by omega⟩
  | j + 1 => by
    unfold Le.at
    by_cases h : D[j]? = some id
    · rw [if_pos h]; exact Or.inr ⟨j, by omega, rfl, h⟩
    · rw [if_neg h]
      rcases Le.at_spec id D j with ⟨h1, h2⟩ | ⟨q, h1, h2, h3⟩
      · refine Or.inl ⟨h1, fun q hq => ?_⟩
        by_cases e : q = j
        · subst e; exact h
        · exact h2 q (by omega)
      · exact Or.inr ⟨q, by omega, h2, h3⟩
set_option maxRecDepth 100000 in
set_option maxHeartbeats 16000000 in

theorem walk (a0 : Option Addr) (len0 cap0 : Nat) (z0 : List Ev) (a1 : Int) (w : World) (htab : Lib.TabIs Tryd.prog w "internal/strconv.uint64pow10" .u64 Lib.pow10Tab) (hsi : SI w) (w0 : IsEv w a0 len0 cap0 z0) (w1 : (Lit.int .i64 a1).wf = true) :
    Calls Tryd.prog 3 #[.slice a0 len0 cap0, .int .i64 a1] w fun e w' => e = .returned (.bool true) ∧ Below w.heap.size w w' := by
  have HI0 : Hid _ := Lib.hid w0
  obtain ⟨L, hL⟩ : ∃ L, fewE 18 z0 = L := ⟨_, rfl⟩
  obtain ⟨m, hm⟩ : ∃ m, L.length = m := ⟨_, rfl⟩
  have hm18 : m ≤ 18 := by rw [← hm, ← hL, fewE_len]; omega
  have HL : Hid (fewE 18 z0 = L ∧ L.length = m ∧ (∀ x ∈ L, x.ok) ∧ fewE 18 L = L ∧ (∀ x ∈ L, x.b.size ≤ 24)) := Lib.hid ⟨hL, hm, by rw [← hL]; exact fewE_ok w0.2.2.2.ok, by rw [← hL]; exact fewE_fewE 18 z0, by rw [← hL]; exact fewE_b⟩
  obtain ⟨n, hn⟩ : ∃ n, (Ev.ids L).length = n := ⟨_, rfl⟩
  obtain ⟨T, hT⟩ : ∃ T, Le.t (Le.tab (Le.rows L)) = T := ⟨_, rfl⟩
  have hsum : Ev.sum L ≤ 1000000 := by
    have h1 := Ev.sum_le (L := L) (B := 24) HL.out.2.2.2.2
    rw [HL.out.2.1] at h1
    omega
  have hn18 : n ≤ 18 := by
    have h1 := Ev.ids_le L
    rw [hn, HL.out.2.1] at h1
    omega
  have HR : Hid ((Ev.ids L).length = n ∧ Le.t (Le.tab (Le.rows L)) = T ∧ (∀ x ∈ Le.rows L, x.ok) ∧ (Le.rows L).length = n ∧ Ev.sum L ≤ 1000000) := Lib.hid ⟨hn, hT, Le.rows_ok HL.out.2.2.1 (by rw [HL.out.2.1]; omega) hsum, by unfold Le.rows; rw [List.length_map, hn], hsum⟩
  have HTB := Lib.hid (And.intro htab hsi)
  clear hL hm hn hT hsum htab hsi w0
  go_enter Tryd.func3, Tryd.ntmps3
  go_upto_region 2 with (go_at_call 6; (refine (few_ev a0 len0 cap0 z0 HI0.out.1 (by have := HI0.out.2.1; have := HI0.out.2.2.1; omega) 18 (by omega) 18 rfl L HL.out.1 m HL.out.2.1 _ HI0.out.2.2.2).mono ?_); rintro r4 W1 ⟨g1, c1, rfl, q1, q2, q3⟩; have H1 : Hid (SQ w W1 g1 c1 L none 0 0 [] none 0 0 []) := Lib.hid ⟨q1, RM.nil _ _ _ _ q3.size, RM.nil _ _ _ _ q3.size, q3⟩; clear q1 q2 q3 HI0)
  go_upto_region 3 with (first
    | (go_at_call 6; (refine (few_ev (some ⟨g1, 0, none⟩) m c1 L HL.out.2.1 (by unfold maxLen; omega) 18 (by omega) 18 rfl L HL.out.2.2.2.1 m HL.out.2.1 _ (EL.of_rn H1.out.ev HL.out.2.2.1)).mono ?_); rintro r4 g2W ⟨g2, g2c, rfl, q1, q2, q3⟩; have H2 := Lib.hid (H1.out.below q3); have H2E := Lib.hid q1; clear q1 q2 q3 H1)
    | (go_at_call 7; (refine (le_rows (some ⟨g2, 0, none⟩) m g2c L HL.out.2.1 (by omega) HL.out.2.2.2.2 n HR.out.1 _ (EL.of_rn H2E.out HL.out.2.2.1)).mono ?_); rintro r7 W3 ⟨r3, c3, rfl, q1, q3⟩; have H3 : Hid (SQ w W3 g1 c1 L r3 n c3 (Le.cs (Le.rows L)) none 0 0 []) := Lib.hid (by have h := H2.out.below q3; exact ⟨h.ev, q1.base_le H2.out.size, h.r2, h.be⟩); clear q1 q3 H2E H2)
    | (go_at_call 8; (refine (rl_rows (some ⟨g1, 0, none⟩) m c1 L HL.out.2.1 (by omega) HL.out.2.2.2.2 n HR.out.1 _ (EL.of_rn H3.out.ev HL.out.2.2.1)).mono ?_); rintro r7 W4 ⟨r4, c4, rfl, q1, q3⟩; have H4 : Hid (SQ w W4 g1 c1 L r3 n c3 (Le.cs (Le.rows L)) r4 n c4 (Le.cs (Le.rows L))) := Lib.hid (by have h := H3.out.below q3; exact ⟨h.ev, h.r1, q1.base_le H3.out.size, h.be⟩); clear q1 q3 H3))
  go_upto_region 5 with (first
    | (go_at_call 6; (refine (few_ev (some ⟨g1, 0, none⟩) m c1 L HL.out.2.1 (by unfold maxLen; omega) 18 (by omega) 18 rfl L HL.out.2.2.2.1 m HL.out.2.1 _ (EL.of_rn H4.out.ev HL.out.2.2.1)).mono ?_); rintro r4 g5W ⟨g5, g5c, rfl, q1, q2, q3⟩; have H5 := Lib.hid (H4.out.below q3); have H5E := Lib.hid q1; clear q1 q2 q3 H4)
    | (go_at_call 9; (with_reducible refine (le_table (some ⟨g5, 0, none⟩) m g5c L HL.out.2.1 (by omega) HL.out.2.2.2.2 HR.out.2.2.1 T HR.out.2.1 _ (EL.of_rn H5E.out HL.out.2.2.1) (H5.out.tab HTB.out.1) (H5.out.si HTB.out.2)).mono ?_); rintro r8 W6 ⟨rfl, q3⟩; have H6 := Lib.hid (H5.out.below q3); clear q3 H5 H5E)
    | (go_at_call 10; (with_reducible refine (rl_table (some ⟨g1, 0, none⟩) m c1 L HL.out.2.1 (by omega) HL.out.2.2.2.2 HR.out.2.2.1 T HR.out.2.1 _ (EL.of_rn H6.out.ev HL.out.2.2.1)).mono ?_); rintro r9 W7 ⟨rfl, q3⟩; have H7 := Lib.hid (H6.out.below q3); clear q3 H6))
  go_wp2_with fail
  go_loopw [7, 8] (fun a z wr => ∃ j : Nat, a = .int .i64 (Le.at a1 (Ev.ids L) j) ∧ z = .int .i64 j ∧ j ≤ n ∧ Hid (SQ w wr g1 c1 L r3 n c3 (Le.cs (Le.rows L)) r4 n c4 (Le.cs (Le.rows L)))) (fun _ z _ => n - (intOf z).toNat)
  case atStart => exact ⟨0, rfl, rfl, by omega, H7⟩
  case round =>
    obtain ⟨j, rfl, rfl, hj, HB⟩ := hrel
    have j0 : (0 : Int) ≤ (j : Int) := by omega
    by_cases hjn : j < n
    · have i1 : (j : Int) < (n : Int) := by omega
      have w2 : IntKind.i64.wrap ((j : Int) + 1) = (j : Int) + 1 := IntWalk.i64_in _ (by omega)
      obtain ⟨ix, hix⟩ : ∃ ix, (Ev.ids L)[j]? = some ix := ⟨_, List.getElem?_eq_getElem (by rw [HR.out.1]; exact hjn)⟩
      obtain ⟨x, hx, hxi⟩ : ∃ x, (Le.rows L)[j]? = some x ∧ x.i = ix := ⟨Le.of ix L, by unfold Le.rows; rw [List.getElem?_map, hix]; rfl, rfl⟩
      obtain ⟨x0, x1, x2, x3, x4, x5, x6, x7, x8, x9⟩ := x
      dsimp only at hxi
      subst hxi
      obtain ⟨g3, rfl, hg3, _⟩ := Le.at10 HB.out.r1 HR.out.2.2.2.1 hx
      obtain ⟨g4, rfl, hg4, _⟩ := Le.at10r HB.out.r2 HR.out.2.2.2.1 hx
      have HX := Lib.hid (And.intro hx hix)
      have e0 := HB.out.s20 HR.out.2.2.2.1 hx
      clear hx hix
      replace HB := Lib.hid (HB.out.below (Below.refl _ _).drew)
      have s0 := HB.out.s20 HR.out.2.2.2.1 HX.out.1
      clear e0
      go_upto_region 9 with fail
      go_region_held3 (fun W => W.cell? ⟨g3, j * 10, none⟩ = some (.int .i64 x0) ∧ W.cell? ⟨g3, j * 10 + 1, none⟩ = some (.int .i64 x1) ∧ W.cell? ⟨g3, j * 10 + 2, none⟩ = some (.int .i64 x2) ∧ W.cell? ⟨g3, j * 10 + 3, none⟩ = some (.int .i64 x3) ∧ W.cell? ⟨g3, j * 10 + 4, none⟩ = some (.int .i64 x4) ∧ W.cell? ⟨g3, j * 10 + 5, none⟩ = some (.int .i64 x5) ∧ W.cell? ⟨g3, j * 10 + 6, none⟩ = some (.int .i64 x6) ∧ W.cell? ⟨g3, j * 10 + 7, none⟩ = some (.int .i64 x7) ∧ W.cell? ⟨g3, j * 10 + 8, none⟩ = some (.int .i64 x8) ∧ W.cell? ⟨g3, j * 10 + 9, none⟩ = some (.int .i64 x9) ∧ W.cell? ⟨g4, j * 10, none⟩ = some (.int .i64 x0) ∧ W.cell? ⟨g4, j * 10 + 1, none⟩ = some (.int .i64 x1) ∧ W.cell? ⟨g4, j * 10 + 2, none⟩ = some (.int .i64 x2) ∧ W.cell? ⟨g4, j * 10 + 3, none⟩ = some (.int .i64 x3) ∧ W.cell? ⟨g4, j * 10 + 4, none⟩ = some (.int .i64 x4) ∧ W.cell? ⟨g4, j * 10 + 5, none⟩ = some (.int .i64 x5) ∧ W.cell? ⟨g4, j * 10 + 6, none⟩ = some (.int .i64 x6) ∧ W.cell? ⟨g4, j * 10 + 7, none⟩ = some (.int .i64 x7) ∧ W.cell? ⟨g4, j * 10 + 8, none⟩ = some (.int .i64 x8) ∧ W.cell? ⟨g4, j * 10 + 9, none⟩ = some (.int .i64 x9)) (first | with_reducible exact sA | with_reducible exact s0 | go_keep) (first | (go_at_call 11; (with_reducible refine (le_same x0 x1 x2 x3 x4 x5 x6 x7 x8 x9 _).mono ?_); rintro e1 V1 ⟨rfl, q3⟩; have HBn := Lib.hid (HB.out.below q3); clear HB; have HB := HBn; clear HBn q3; have sA := HB.out.s20 HR.out.2.2.2.1 HX.out.1))
      have f0 := sA.2.2.2.2.2.2.2.2.2.2.1
      clear sA s0
      by_cases hid : x0 = a1
      · have ib : (x0 == a1) = true := by simp [hid]
        have HAT : Hid (Le.at a1 (Ev.ids L) (j + 1) = (j : Int)) := Lib.hid (by show (if _ then _ else _) = _; rw [HX.out.2, hid, if_pos rfl])
        clear hid
        go_wp2_with fail
        go_roundw
        case rel => exact ⟨j + 1, by rw [HAT.out], by go_num, by omega, HB⟩
        case measure => simp [intOf]; omega
      · have ib : (x0 == a1) = false := by simp [hid]
        have HAT : Hid (Le.at a1 (Ev.ids L) (j + 1) = Le.at a1 (Ev.ids L) j) := Lib.hid (by show (if _ then _ else _) = _; rw [HX.out.2, if_neg (by simpa using hid)])
        clear hid
        go_wp2_with fail
        go_roundw
        case rel => exact ⟨j + 1, by rw [HAT.out], by go_num, by omega, HB⟩
        case measure => simp [intOf]; omega
    · obtain rfl : j = n := by omega
      have i1 : ¬ (j : Int) < (j : Int) := by omega
      obtain ⟨⟨i2, sc, fr, TT, ok⟩, hlf⟩ : ∃ p, Pj.lifeD a1 L = p := ⟨_, rfl⟩
      cases ok with
      | true =>
        obtain ⟨q, hq, hat, hiq⟩ : ∃ q : Nat, q < j ∧ Le.at a1 (Ev.ids L) j = (q : Int) ∧ (Ev.ids L)[q]? = some a1 := by
          rcases Le.at_spec a1 (Ev.ids L) j with ⟨_, h2⟩ | h
          · exfalso
            have hm : a1 ∈ Ev.ids L := (Le.ok_iff a1 L).1 (by rw [hlf])
            obtain ⟨q, hq⟩ := List.getElem?_of_mem hm
            have hql := (List.getElem?_eq_some_iff.1 hq).1
            rw [HR.out.1] at hql
            exact h2 q hql hq
          · exact h
        obtain ⟨⟨y0, y1, y2, y3, y4, y5, y6, y7, y8, y9⟩, hY⟩ : ∃ X, Le.mk a1 sc fr TT = X := ⟨_, rfl⟩
        have hrq : (Le.rows L)[q]? = some ⟨y0, y1, y2, y3, y4, y5, y6, y7, y8, y9⟩ := by unfold Le.rows; rw [List.getElem?_map, hiq]; show some (Le.of a1 L) = _; unfold Le.of; rw [hlf]; show some (Le.mk a1 sc fr TT) = _; rw [hY]
        have HQ : Hid (Pj.lifeD a1 L = (i2, sc, fr, TT, true) ∧ Le.mk a1 sc fr TT = ⟨y0, y1, y2, y3, y4, y5, y6, y7, y8, y9⟩ ∧ (Le.rows L)[q]? = some ⟨y0, y1, y2, y3, y4, y5, y6, y7, y8, y9⟩) := Lib.hid ⟨hlf, hY, hrq⟩
        have q0 : (0 : Int) ≤ (q : Int) := by omega
        have q1 : (q : Int) < (j : Int) := by omega
        obtain ⟨g3, rfl, hg3, _⟩ := Le.at10 HB.out.r1 HR.out.2.2.2.1 hrq
        obtain ⟨g4, rfl, hg4, _⟩ := Le.at10r HB.out.r2 HR.out.2.2.2.1 hrq
        rw [hat]
        clear hlf hiq hY hrq hat hg3 hg4
        have HQC : Hid (m ≤ c1) := Lib.hid (by
          have h1 := HB.out.ev.len
          rw [evs_len, HL.out.2.1] at h1
          omega)
        go_upto_region 14 with (first
          | (go_at_call 6; (refine (few_ev (some ⟨g1, 0, none⟩) m c1 L HL.out.2.1 (by unfold maxLen; omega) 18 (by omega) 18 rfl L HL.out.2.2.2.1 m HL.out.2.1 _ (EL.of_rn HB.out.ev HL.out.2.2.1)).mono ?_); rintro r4 W8 ⟨g6, c6, rfl, p1, p2, p3⟩; have H8 := Lib.hid (HB.out.below p3); have H8E := Lib.hid p1; have H8C : Hid (m ≤ c6) := Lib.hid (by have h1 := p1.len; rw [evs_len, HL.out.2.1] at h1; omega); clear p1 p2 p3 HB)
          | (go_at_call 12; (with_reducible refine (le_of10t (some ⟨g6, 0, none⟩) m c6 L HL.out.2.1 (by omega) H8C.out HR.out.2.2.2.2 a1 i2 sc fr TT HQ.out.1 y0 y1 y2 y3 y4 y5 y6 y7 y8 y9 HQ.out.2.1 _ (EL.of_rn H8E.out HL.out.2.2.1)).mono ?_); rintro r9 W9 ⟨rfl, p3⟩; have H9 := Lib.hid (H8.out.below p3); clear p3 H8 H8E))
        have HW : Hid (Blk (W9.alloc (.cells #[.int .i64 y0, .int .i64 y1, .int .i64 y2, .int .i64 y3, .int .i64 y4, .int .i64 y5, .int .i64 y6, .int .i64 y7, .int .i64 y8, .int .i64 y9] 31)) W9.heap.size [.int .i64 y0, .int .i64 y1, .int .i64 y2, .int .i64 y3, .int .i64 y4, .int .i64 y5, .int .i64 y6, .int .i64 y7, .int .i64 y8, .int .i64 y9] 31 ∧ SQ w (W9.alloc (.cells #[.int .i64 y0, .int .i64 y1, .int .i64 y2, .int .i64 y3, .int .i64 y4, .int .i64 y5, .int .i64 y6, .int .i64 y7, .int .i64 y8, .int .i64 y9] 31)) g1 c1 L (some ⟨g3, 0, none⟩) j c3 (Le.cs (Le.rows L)) (some ⟨g4, 0, none⟩) j c4 (Le.cs (Le.rows L))) := Lib.hid ⟨Blk.newA _ _ _, H9.out.below ((Below.refl _ _).alloc (Nat.le_refl _) _)⟩
        clear H9
        revert HW
        generalize (W9.alloc (.cells #[.int .i64 y0, .int .i64 y1, .int .i64 y2, .int .i64 y3, .int .i64 y4, .int .i64 y5, .int .i64 y6, .int .i64 y7, .int .i64 y8, .int .i64 y9] 31)) = V
        generalize W9.heap.size = X9
        intro HW
        have HF := Lib.hid (fun wq (hwq : Below V.heap.size V wq) => s14t (HW.out.1.chg (l := []) (Chg.of_fresh hwq) (by simp)) ((HW.out.2.below hwq).s20 HR.out.2.2.2.1 HQ.out.2.2))
        have HLV := Lib.hid (fun wq (hwq : Below V.heap.size V wq) => le_lives wq ((HW.out.2.below hwq).tab HTB.out.1) ((HW.out.2.below hwq).si HTB.out.2))
        refine lr_regT V _ X9 g4 c4 j q y0 y1 y2 y3 y4 y5 y6 y7 y8 y9 (by omega) (by omega) HF HLV (Below.refl _ _) _ _ rfl ⟨rfl, rfl, rfl, rfl, trivial⟩ (fun w4 hw4 => ?_)
        simp only [putsL, Act.put, Option.getD_some, Option.getD_none, List.setIfInBounds_toArray, List.set_cons_zero, List.set_cons_succ]
        go_wp2_with fail
        go_ret
        exact ⟨rfl, HW.out.2.be.trans (hw4.mono HW.out.2.be.size)⟩
      | false =>
        have hat : Le.at a1 (Ev.ids L) j = -1 := by
          rcases Le.at_spec a1 (Ev.ids L) j with ⟨h1, _⟩ | ⟨q, _, _, h3⟩
          · exact h1
          · have := (Le.ok_iff a1 L).2 (List.mem_of_getElem? h3)
            rw [hlf] at this
            cases this
        have HQ : Hid (Pj.lifeD a1 L = (i2, sc, fr, TT, false) ∧ (if false = true then Le.mk a1 sc fr TT else Le.zero) = ⟨0, 0, 0, 0, 0, 0, 0, 0, 0, 0⟩) := Lib.hid ⟨hlf, by rw [if_neg (by simp)]; rfl⟩
        rw [hat]
        clear hlf hat
        have HQC : Hid (m ≤ c1) := Lib.hid (by
          have h1 := HB.out.ev.len
          rw [evs_len, HL.out.2.1] at h1
          omega)
        go_upto_region 14 with (first
          | (go_at_call 6; (refine (few_ev (some ⟨g1, 0, none⟩) m c1 L HL.out.2.1 (by unfold maxLen; omega) 18 (by omega) 18 rfl L HL.out.2.2.2.1 m HL.out.2.1 _ (EL.of_rn HB.out.ev HL.out.2.2.1)).mono ?_); rintro r4 W8 ⟨g6, c6, rfl, p1, p2, p3⟩; have H8 := Lib.hid (HB.out.below p3); have H8E := Lib.hid p1; have H8C : Hid (m ≤ c6) := Lib.hid (by have h1 := p1.len; rw [evs_len, HL.out.2.1] at h1; omega); clear p1 p2 p3 HB)
          | (go_at_call 12; (with_reducible refine (le_of10 (some ⟨g6, 0, none⟩) m c6 L HL.out.2.1 (by omega) H8C.out HR.out.2.2.2.2 a1 i2 sc fr TT false HQ.out.1 0 0 0 0 0 0 0 0 0 0 HQ.out.2 _ (EL.of_rn H8E.out HL.out.2.2.1)).mono ?_); rintro r9 W9 ⟨rfl, p3⟩; have H9 := Lib.hid (H8.out.below p3); clear p3 H8 H8E))
        have HW : Hid (Blk (W9.alloc (.cells #[.int .i64 0, .int .i64 0, .int .i64 0, .int .i64 0, .int .i64 0, .int .i64 0, .int .i64 0, .int .i64 0, .int .i64 0, .int .i64 0] 31)) W9.heap.size [.int .i64 0, .int .i64 0, .int .i64 0, .int .i64 0, .int .i64 0, .int .i64 0, .int .i64 0, .int .i64 0, .int .i64 0, .int .i64 0] 31 ∧ SQ w (W9.alloc (.cells #[.int .i64 0, .int .i64 0, .int .i64 0, .int .i64 0, .int .i64 0, .int .i64 0, .int .i64 0, .int .i64 0, .int .i64 0, .int .i64 0] 31)) g1 c1 L r3 j c3 (Le.cs (Le.rows L)) r4 j c4 (Le.cs (Le.rows L))) := Lib.hid ⟨Blk.newA _ _ _, H9.out.below ((Below.refl _ _).alloc (Nat.le_refl _) _)⟩
        clear H9
        revert HW
        generalize (W9.alloc (.cells #[.int .i64 0, .int .i64 0, .int .i64 0, .int .i64 0, .int .i64 0, .int .i64 0, .int .i64 0, .int .i64 0, .int .i64 0, .int .i64 0] 31)) = V
        generalize W9.heap.size = X9
        intro HW
        have HF := Lib.hid (fun wq (hwq : Below V.heap.size V wq) => s14f (HW.out.1.chg (l := []) (Chg.of_fresh hwq) (by simp)))
        have HLV := Lib.hid (fun wq (hwq : Below V.heap.size V wq) => le_lives wq ((HW.out.2.below hwq).tab HTB.out.1) ((HW.out.2.below hwq).si HTB.out.2))
        refine lr_regF V _ X9 HF HLV (Below.refl _ _) _ _ rfl ⟨rfl, rfl, rfl, trivial⟩ (fun w4 hw4 => ?_)
        simp only [putsL, Act.put, Option.getD_some, Option.getD_none, List.setIfInBounds_toArray, List.set_cons_zero, List.set_cons_succ]
        go_wp2_with fail
        go_ret
        exact ⟨rfl, HW.out.2.be.trans (hw4.mono HW.out.2.be.size)⟩


theorem own3 : ownKnob Tryd.prog.godebug = none := by kernel_rfl
theorem tab_rows : (Rows.laid_internal_strconv_uint64pow10 : DataW Unit) = Lib.tabData .u64 Lib.pow10Tab := by kernel_rfl
theorem tab_of (W : World) (hL : laidMetH Tryd.prog Rows.ledgerRowsRow.laid W) : Lib.TabIs Tryd.prog W "internal/strconv.uint64pow10" .u64 Lib.pow10Tab := by
  have h1 : laidMet Tryd.prog Rows.ledgerRowsRow.laid W := hL
  have h2 : laidMet Tryd.prog [("math/bits.deBruijn32tab", Rows.laid_math_bits_deBruijn32tab), ("math/bits.deBruijn64tab", Rows.laid_math_bits_deBruijn64tab), ("internal/strconv.uint64pow10", Rows.laid_internal_strconv_uint64pow10), ("repartee/log.statuses", Rows.laid_repartee_log_statuses)] W := h1
  have h3 := h2.tail.tail
  rw [tab_rows] at h3
  exact Lib.tabIs_of_head (g := 1) (t := 137) (e := 118) (n := 20) (by kernel_rfl) (by kernel_rfl) (by kernel_rfl) (by kernel_rfl) (by kernel_rfl) (by kernel_rfl) h3
theorem si_of (W : World) (hL : laidMetH Tryd.prog Rows.ledgerRowsRow.laid W) : SI W := by
  have h1 : laidMet Tryd.prog Rows.ledgerRowsRow.laid W := hL
  have h2 : laidMet Tryd.prog [("math/bits.deBruijn32tab", Rows.laid_math_bits_deBruijn32tab), ("math/bits.deBruijn64tab", Rows.laid_math_bits_deBruijn64tab), ("internal/strconv.uint64pow10", Rows.laid_internal_strconv_uint64pow10), ("repartee/log.statuses", Rows.laid_repartee_log_statuses)] W := h1
  exact SI_of W h2.tail.tail.tail
set_option maxRecDepth 100000 in
theorem contract (H : Type) (enc : TypeId × Value → H) (W : World) (base : Nat) (args : Array Value) (ds gs : List (DataW H)) (before : List MemPlace)
    (hval0 : ∀ (j : Nat) t v, Tryd.f3.params[j]? = some t → args[j]? = some v → Value.okWide Tryd.prog W .any base t v)
    (hW : DataW.Whole enc Tryd.prog Tryd.f3.params.toList Rows.ledgerRowsSpec.vars false W args.toList ds gs before) (hSh : W.ShapedOpen Tryd.prog) (htab : Lib.TabIs Tryd.prog W "internal/strconv.uint64pow10" .u64 Lib.pow10Tab) (hsi : SI W) :
    Calls Tryd.prog 3 args W fun e W' => ∃ v, e = .returned v ∧ Rows.ledgerRowsSpec.post enc Tryd.prog Tryd.f3 false true false false W args v W' := by
  have hval : ∀ (j : Nat) t v, Tryd.f3.params[j]? = some t → args[j]? = some v → Value.okWide Tryd.prog W .any base t v := hval0
  have hW' := hW
  obtain ⟨p, q, hA0, hV, rfl, hfz, hnd⟩ := hW
  have hA : DataW.TrodAll enc Tryd.prog W 0 (fun _ => true) true Tryd.f3.params.toList args.toList ds p := hA0
  rw [Tryd.params3] at hA hval
  obtain ⟨v0, vs0, d0, ds0, p0, q0, hargs, rfl, rfl, h0, r0⟩ := trodAll_cons hA
  obtain ⟨v1, vs1, d1, ds1, p1, q1, rfl, rfl, rfl, h1, r1⟩ := trodAll_cons r0
  obtain ⟨rfl, rfl, rfl⟩ := trodAll_nil r1
  obtain rfl : args = #[v0, v1] := by cases args; simp_all
  obtain ⟨rfl, rfl⟩ := trodVars_none hV
  have k0 := h0
  have lt0 : ∀ x ∈ p0, x.block < W.heap.size := by obtain ⟨m, hm⟩ := k0; exact DataW.trod_lt m _ _ _ hm
  obtain ⟨b0, lb0, cb0, rfl⟩ := okWide_slice Tryd.underlying22 (hval 0 22 v0 rfl rfl)
  obtain ⟨fu0, hf0⟩ := h0
  simp only [Value.cells] at hf0
  obtain ⟨a0, len0, cap0, z0, e0, w0⟩ := fld_ev hf0
  obtain ⟨rfl, rfl, rfl⟩ : b0 = a0 ∧ lb0 = len0 ∧ cb0 = cap0 := by simpa using e0
  have k1 := h1
  have lt1 : ∀ x ∈ p1, x.block < W.heap.size := by obtain ⟨m, hm⟩ := k1; exact DataW.trod_lt m _ _ _ hm
  obtain ⟨a1, rfl, rfl, rfl, w1⟩ := open_int Tryd.underlying3 (hval 1 3 v1 rfl rfl) h1
  clear hA0 hval0
  refine (walk b0 lb0 cb0 z0 a1 W htab hsi w0 w1).mono fun e W' ⟨he, bel⟩ => ?_
  subst he
  exact ⟨_, rfl, _, _, _, [], _, [], hW', trodAll_mk1 (shut_bool Tryd.underlying4 _), (trodAll_cons_mk (Below.trod laidOut (by kernel_rfl) (of_decide_eq_true (by kernel_rfl)) k0 bel lt0) (trodAll_cons_mk (Below.trod laidOut (by kernel_rfl) (of_decide_eq_true (by kernel_rfl)) k1 bel lt1) trodAll_mk0)), rfl, bel.frame _, fun h => by cases h⟩

noncomputable def laidWorld (os : Os) : World :=
  { World.holding Tryd.prog os ⟨#[], #[], []⟩ with heap := (((((World.holding Tryd.prog os ⟨#[], #[], []⟩).heap.modify 3 fun
      | .cells _ t frozen => .cells #[.int .u8 0, .int .u8 1, .int .u8 28, .int .u8 2, .int .u8 29, .int .u8 14, .int .u8 24, .int .u8 3, .int .u8 30, .int .u8 22, .int .u8 20, .int .u8 15, .int .u8 25, .int .u8 17, .int .u8 4, .int .u8 8, .int .u8 31, .int .u8 27, .int .u8 13, .int .u8 23, .int .u8 21, .int .u8 19, .int .u8 16, .int .u8 7, .int .u8 26, .int .u8 12, .int .u8 18, .int .u8 6, .int .u8 11, .int .u8 5, .int .u8 10, .int .u8 9] t frozen
      | o => o).modify 4 fun
      | .cells _ t frozen => .cells #[.int .u8 0, .int .u8 1, .int .u8 56, .int .u8 2, .int .u8 57, .int .u8 49, .int .u8 28, .int .u8 3, .int .u8 61, .int .u8 58, .int .u8 42, .int .u8 50, .int .u8 38, .int .u8 29, .int .u8 17, .int .u8 4, .int .u8 62, .int .u8 47, .int .u8 59, .int .u8 36, .int .u8 45, .int .u8 43, .int .u8 51, .int .u8 22, .int .u8 53, .int .u8 39, .int .u8 33, .int .u8 30, .int .u8 24, .int .u8 18, .int .u8 12, .int .u8 5, .int .u8 63, .int .u8 55, .int .u8 48, .int .u8 27, .int .u8 60, .int .u8 41, .int .u8 37, .int .u8 16, .int .u8 46, .int .u8 35, .int .u8 44, .int .u8 21, .int .u8 52, .int .u8 32, .int .u8 23, .int .u8 11, .int .u8 54, .int .u8 26, .int .u8 40, .int .u8 15, .int .u8 34, .int .u8 20, .int .u8 31, .int .u8 10, .int .u8 25, .int .u8 14, .int .u8 19, .int .u8 9, .int .u8 13, .int .u8 8, .int .u8 7, .int .u8 6] t frozen
      | o => o).modify 1 fun
      | .cells _ t frozen => .cells #[.int .u64 1, .int .u64 10, .int .u64 100, .int .u64 1000, .int .u64 10000, .int .u64 100000, .int .u64 1000000, .int .u64 10000000, .int .u64 100000000, .int .u64 1000000000, .int .u64 10000000000, .int .u64 100000000000, .int .u64 1000000000000, .int .u64 10000000000000, .int .u64 100000000000000, .int .u64 1000000000000000, .int .u64 10000000000000000, .int .u64 100000000000000000, .int .u64 1000000000000000000, .int .u64 10000000000000000000] t frozen
      | o => o).modify 0 fun
      | .cells _ t frozen => .cells #[.string ⟨#[114, 117, 110]⟩, .string ⟨#[100, 111, 110, 101]⟩, .string ⟨#[102, 97, 105, 108, 101, 100]⟩, .string ⟨#[100, 101, 97, 100, 108, 105, 110, 101]⟩, .string ⟨#[111, 118, 101, 114, 102, 108, 111, 119]⟩, .string ⟨#[100, 114, 97, 105, 110, 101, 100]⟩] t frozen
      | o => o) }
theorem laid_met (os : Os) : laidMet Tryd.prog Rows.ledgerRowsRow.laid ((laidWorld os).forCall (fun _ _ => 0) ⟨#[], #[.slice none 0 0, .int .i64 0], []⟩).memory :=
  laidMet_of_run' 8 (by kernel_rfl) (by kernel_rfl)
theorem reads (os : Os) {H : Type} (enc : TypeId × Value → H) : ∃ places, DataW.whole enc Tryd.prog ((laidWorld os).forCall (fun _ _ => 0) ⟨#[], #[.slice none 0 0, .int .i64 0], []⟩).memory Tryd.f3.params.toList Rows.ledgerRowsSpec.vars false (#[.slice none 0 0, .int .i64 0] : Array Value).toList 8 = some ([.nil, .lit (.int .i64 0)], [], places) :=
  ⟨[], by kernel_rfl⟩
set_option maxRecDepth 100000 in
theorem lifted (os : Os) (started : os.Started) (H : Type) (enc : TypeId × Value → H) (F : Stop.Interp) :
    ReturnsInHanded {} Tryd.checked os 3 .any ((OpenSpec.ofChange Rows.ledgerRowsSpec).preRow enc Tryd.prog Tryd.f3 Rows.ledgerRowsRow.domain false Rows.ledgerRowsRow.laid) (((OpenSpec.ofChange Rows.ledgerRowsSpec).at F).post enc Tryd.prog Tryd.f3 false true false false) := by
  obtain ⟨places, hx⟩ := reads os enc
  refine returnsInHanded_of_row (C := Tryd.checked) (s := OpenSpec.ofChange Rows.ledgerRowsSpec) own3 started (by kernel_rfl) Tryd.func3
    (witness_row_at (enc := enc) (C := Tryd.checked) false (laidWorld os) #[.slice none 0 0, .int .i64 0] rfl (by kernel_rfl) (by kernel_rfl) (by kernel_rfl)
      (OpenSpec.preRow_of_cond 8 hx (by kernel_rfl) (fun k hk => by cases hk) (by kernel_rfl) (laid_met os))) ?_
  intro W base args ds gs before hval hW _ _ _ hL hSh _
  exact contract H enc W base args ds gs before hval hW hSh (tab_of W hL) (si_of W hL)
theorem said : Rows.LedgerRowsSaid :=
  OpenClaim.holds_of_cond 3 Tryd.f3 rfl rfl rfl rfl rfl rfl rfl ⟨rfl, rfl, rfl, rfl, rfl⟩ rfl rfl rfl rfl rfl (by kernel_rfl) Tryd.func3 (by kernel_rfl)
    (of_decide_eq_true (by kernel_rfl)) (by unfold Func.isWrapper; first | (rw [if_pos (by decide +kernel)]; kernel_rfl) | (rw [if_neg (by decide +kernel)]; exact ⟨rfl, rfl⟩))
    (fun os started H enc _ F => by rw [OpenClaim.pre_eq_preRow]; exact lifted os started H enc F)
theorem plain (f : FuncId) (fn : Func) (hf : Tryd.pinned.checked.prog.funcNamed "repartee/reparteelaw38.LedgerRows" = some f) (hfn : Tryd.pinned.checked.prog.funcs[f]? = some fn) :
    false = Tryd.pinned.checked.prog.looks [] ∧ ∀ (j : Nat) t, fn.params[j]? = some t → Tryd.pinned.checked.prog.wantsStandIn t = false := by
  obtain rfl : f = 3 := Option.some.inj ((show Tryd.prog.funcNamed "repartee/reparteelaw38.LedgerRows" = some 3 by kernel_rfl).symm.trans hf) |>.symm
  obtain rfl : fn = Tryd.f3 := (Option.some.inj (Tryd.func3.symm.trans hfn)).symm
  refine ⟨by kernel_rfl, fun j t ht => ?_⟩
  rw [Tryd.params3] at ht
  have hm : t ∈ [22, 3] := by simpa using Array.mem_of_getElem? ht
  have hall : ([22, 3].all fun u => !Tryd.prog.wantsStandIn u) = true := by kernel_rfl
  exact (show Tryd.prog.wantsStandIn t = false by simpa using List.all_eq_true.1 hall t hm)
/-- The statement. -/
theorem proved : Rows.LedgerRowsCardSaid :=
  Claim7.holds_tied_plain_at .later [] _ _ _ _ said (fun _ h => by cases h) (by kernel_rfl) (fun _ h => by cases h) ledgerRows_row_tie rfl ⟨rfl, rfl⟩ (by kernel_rfl) rfl plain (by kernel_rfl)
#print axioms proved
end Go.Proofs.YtdchedkhlfmpeaaDoor.ledgerRows
