/- Several texts in one. -/
import Derived.Test.YtoniipmgkoogbaaArB
import Derived.Test.YtoniipmgkoogbaaLxN
import Derived.Test.YtoniipmgkoogbaaClass
import Derived.Lib.SliceRun
import Derived.Deep.RegionLaw
import Derived.WalkKit
import Derived.ProofKit
import Derived.Handy
import Derived.WalkLawsBesides
import Derived.WalkSpells
import Derived.Lib.Hide
import Derived.RegionTactic
import Derived.ChangeAlike
import Derived.WalkSmall
import Derived.Deep.QuietTactic
import Derived.BigQuiet
import Derived.OwnWalk
import Derived.Outline
import Derived.Deep.CutRange
import Derived.Deep.CutBlock
import Derived.LoopTactic
import Derived.Test.YtoniipmgkoogbaaRm
/- Scripts: what is wrong of a text, a send, an arm; what an op keeps. -/
namespace Go.Proofs.Ytoniipmgkoogbaa
open Go.ChangeShapes Go.WideShapes Go.ChangeAt Go.RowKit
set_option linter.unusedSimpArgs false
set_option linter.unusedVariables false


/-- A kind's word. -/
def Pg.word (k : Int) : ByteArray := if k = 1 then { data := #[115, 101, 110, 100] } else if k = 2 then { data := #[101, 120, 112, 101, 99, 116] } else if k = 3 then { data := #[103, 111, 116, 111] } else if k = 4 then { data := #[112, 97, 117, 115, 101] } else if k = 5 then { data := #[100, 111, 110, 101] } else if k = 6 then { data := #[102, 97, 105, 108] } else { data := #[] }
set_option maxRecDepth 20000 in
set_option maxHeartbeats 4000000 in
theorem pg_word (k : Int) (s : ByteArray) (hs : Pg.word k = s) (w : World) : Calls Try.prog 12 #[.int .i64 k] w fun e w' => e = .returned (.string s) ∧ w' = w := by
  by_cases h1 : k = 1
  · subst h1
    obtain rfl : ({ data := #[115, 101, 110, 100] } : ByteArray) = s := hs
    go_enter Try.func12, Try.ntmps12
    go_wp2_with fail
    go_ret
    exact ⟨rfl, rfl⟩
  · skip
    by_cases h2 : k = 2
    · subst h2
      obtain rfl : ({ data := #[101, 120, 112, 101, 99, 116] } : ByteArray) = s := hs
      clear h1
      go_enter Try.func12, Try.ntmps12
      go_wp2_with fail
      go_ret
      exact ⟨rfl, rfl⟩
    · skip
      by_cases h3 : k = 3
      · subst h3
        obtain rfl : ({ data := #[103, 111, 116, 111] } : ByteArray) = s := hs
        clear h1 h2
        go_enter Try.func12, Try.ntmps12
        go_wp2_with fail
        go_ret
        exact ⟨rfl, rfl⟩
      · skip
        by_cases h4 : k = 4
        · subst h4
          obtain rfl : ({ data := #[112, 97, 117, 115, 101] } : ByteArray) = s := hs
          clear h1 h2 h3
          go_enter Try.func12, Try.ntmps12
          go_wp2_with fail
          go_ret
          exact ⟨rfl, rfl⟩
        · skip
          by_cases h5 : k = 5
          · subst h5
            obtain rfl : ({ data := #[100, 111, 110, 101] } : ByteArray) = s := hs
            clear h1 h2 h3 h4
            go_enter Try.func12, Try.ntmps12
            go_wp2_with fail
            go_ret
            exact ⟨rfl, rfl⟩
          · skip
            by_cases h6 : k = 6
            · subst h6
              obtain rfl : ({ data := #[102, 97, 105, 108] } : ByteArray) = s := hs
              clear h1 h2 h3 h4 h5
              go_enter Try.func12, Try.ntmps12
              go_wp2_with fail
              go_ret
              exact ⟨rfl, rfl⟩
            · skip
              obtain rfl : ({ data := #[] } : ByteArray) = s := by rw [← hs]; unfold Pg.word; rw [if_neg h1, if_neg h2, if_neg h3, if_neg h4, if_neg h5, if_neg h6]
              have g1 : (k == 1) = false := by simpa using h1
              have g2 : (k == 2) = false := by simpa using h2
              have g3 : (k == 3) = false := by simpa using h3
              have g4 : (k == 4) = false := by simpa using h4
              have g5 : (k == 5) = false := by simpa using h5
              have g6 : (k == 6) = false := by simpa using h6
              clear hs h1 h2 h3 h4 h5 h6
              go_enter Try.func12, Try.ntmps12
              go_wp2_with fail
              go_ret
              exact ⟨rfl, rfl⟩
/-- An op: its kind, text, ticks, goal, arms (a pattern's text and a goal), and where it goes on. -/
structure Pg.Op where
  k : Int
  tx : ByteArray
  n : Int
  to1 : Int
  ar : List (ByteArray × Int)
  ot : Int
  oe : Int
def Pg.inB (x lo hi : Int) : Bool := decide (lo ≤ x) && decide (x ≤ hi)
/-- What is wrong of an arm of a script of so many ops. -/
def Pg.wArm (N : Nat) (p : ByteArray × Int) : Nat := if 64 < p.1.size then 4 else if Ar.ck p.1 ≠ 0 then Ar.ck p.1 else if Pg.inB p.2 0 N = true then 0 else 13
/-- What is wrong of the first arm of which something is. -/
def Pg.wArms (N : Nat) : List (ByteArray × Int) → Nat
  | [] => 0
  | p :: l => if Pg.wArm N p ≠ 0 then Pg.wArm N p else Pg.wArms N l
def Pg.wSend (o : Pg.Op) : Nat := if o.tx.size = 0 then 9 else if 256 < o.tx.size then 4 else 0
def Pg.wExp (N : Nat) (o : Pg.Op) : Nat :=
  if Pg.inB o.n 0 1000000000000 = false ∧ o.n ≠ 9223372036854775807 then 12 else if 8 < o.ar.length then 4 else if Pg.wArms N o.ar ≠ 0 then Pg.wArms N o.ar else
  if Pg.inB o.ot (-1) N = true ∧ Pg.inB o.oe (-1) N = true then 0 else 13
/-- What an op's kind leaves of it. -/
def Pg.own (o : Pg.Op) : Pg.Op :=
  if o.k = 1 then ⟨o.k, o.tx, 0, 0, [], 0, 0⟩ else if o.k = 2 then ⟨o.k, ⟨#[]⟩, o.n, 0, o.ar, o.ot, o.oe⟩ else if o.k = 3 then ⟨o.k, ⟨#[]⟩, 0, o.to1, [], 0, 0⟩ else
  if o.k = 4 then ⟨o.k, ⟨#[]⟩, o.n, 0, [], 0, 0⟩ else ⟨o.k, ⟨#[]⟩, 0, 0, [], 0, 0⟩
/-- Are two ops one, part by part? -/
def Pg.same (a b : Pg.Op) : Bool := decide (a.k = b.k) && (decide (a.tx = b.tx) && (decide (a.n = b.n) && (decide (a.to1 = b.to1) && (decide (a.ar = b.ar) && (decide (a.ot = b.ot) && decide (a.oe = b.oe))))))
def Pg.wOp (N : Nat) (o : Pg.Op) : Nat :=
  if (Pg.word o.k).size = 0 then 11 else if Pg.same o (Pg.own o) = false then 2 else
  if o.k = 1 then Pg.wSend o else if o.k = 2 then Pg.wExp N o else if o.k = 3 then (if Pg.inB o.to1 0 N = true then 0 else 13) else if o.k = 4 then (if Pg.inB o.n 0 1000000000000 = true then 0 else 12) else 0
/-- The first op of which something is wrong (from op i on), and what. -/
def Pg.wOps (N : Nat) : Nat → List Pg.Op → Nat × Nat
  | _, [] => (0, 0)
  | i, o :: l => if Pg.wOp N o ≠ 0 then (i, Pg.wOp N o) else Pg.wOps N (i + 1) l
/-- What is wrong of a script, and where. -/
def Pg.wrong (nm : ByteArray) (dl jp : Int) (l : List Pg.Op) : Int × Nat :=
  if Lx.name nm.data.toList = false then (-1, 10) else if Pg.inB dl 1 1000000000000 = false ∧ dl ≠ 9223372036854775807 then (-1, 12) else if Pg.inB jp 0 1000 = false then (-1, 12) else
  if 200 < l.length then (-1, 4) else ((Pg.wOps l.length 0 l).1, (Pg.wOps l.length 0 l).2)
theorem pg_ini (x lo hi : Int) (b : Bool) (hb : (decide (lo ≤ x) && decide (x ≤ hi)) = b) (w : World) : Calls Try.prog 16 #[.int .i64 x, .int .i64 lo, .int .i64 hi] w fun e w' => e = .returned (.bool b) ∧ w' = w := by
  by_cases h1 : lo ≤ x
  · by_cases h2 : x ≤ hi
    · obtain rfl : true = b := by rw [← hb]; simp [h1, h2]
      clear hb
      go_enter Try.func16, Try.ntmps16
      go_wp2_with fail
      go_ret
      exact ⟨rfl, rfl⟩
    · obtain rfl : false = b := by rw [← hb]; simp [h2]
      clear hb
      go_enter Try.func16, Try.ntmps16
      go_wp2_with fail
      go_ret
      exact ⟨rfl, rfl⟩
  · obtain rfl : false = b := by rw [← hb]; simp [h1]
    clear hb
    go_enter Try.func16, Try.ntmps16
    go_wp2_with fail
    go_ret
    exact ⟨rfl, rfl⟩
theorem pg_inn (x lo hi : Int) (b : Bool) (hb : (decide (lo ≤ x) && decide (x ≤ hi)) = b) (w : World) : Calls Try.prog 17 #[.int .i64 x, .int .i64 lo, .int .i64 hi] w fun e w' => e = .returned (.bool b) ∧ w' = w := by
  by_cases h1 : lo ≤ x
  · by_cases h2 : x ≤ hi
    · obtain rfl : true = b := by rw [← hb]; simp [h1, h2]
      clear hb
      go_enter Try.func17, Try.ntmps17
      go_wp2_with fail
      go_ret
      exact ⟨rfl, rfl⟩
    · obtain rfl : false = b := by rw [← hb]; simp [h2]
      clear hb
      go_enter Try.func17, Try.ntmps17
      go_wp2_with fail
      go_ret
      exact ⟨rfl, rfl⟩
  · obtain rfl : false = b := by rw [← hb]; simp [h1]
    clear hb
    go_enter Try.func17, Try.ntmps17
    go_wp2_with fail
    go_ret
    exact ⟨rfl, rfl⟩
set_option maxRecDepth 20000 in
set_option maxHeartbeats 4000000 in
theorem pg_send (k : Int) (tx : ByteArray) (n to1 : Int) (aa : Option Addr) (al ac : Nat) (ot oe : Int) (ar : List (ByteArray × Int)) (hs : tx.size ≤ maxLen) (e : Nat) (he : Pg.wSend ⟨k, tx, n, to1, ar, ot, oe⟩ = e) (w : World) : Calls Try.prog 27 #[.agg #[.int .i64 k, .string tx, .int .i64 n, .int .i64 to1, .slice aa al ac, .int .i64 ot, .int .i64 oe]] w fun r w' => r = .returned (.int .i64 e) ∧ Below w.heap.size w w' := by
  have hm : maxLen ≤ 9223372036854775807 := by unfold maxLen; omega
  unfold Pg.wSend at he
  dsimp only at he
  by_cases h0 : tx.size = 0
  · rw [if_pos h0] at he
    subst he
    have ht : tx = ⟨#[]⟩ := by
      have : tx.data.size = 0 := h0
      cases tx with | mk d => simp at this; rw [this]
    subst ht
    clear h0 hs
    go_enter Try.func27, Try.ntmps27
    go_wp2_with fail
    go_ret
    exact ⟨rfl, (Below.refl _ _).alloc (Nat.le_refl _) _⟩
  · rw [if_neg h0] at he
    have hf := lxn_full (G := tx) (by omega)
    by_cases h1 : 256 < tx.size
    · rw [if_pos h1] at he
      subst he
      have i1 : (256 : Int) < (tx.size : Int) := by omega
      clear h0 hs
      go_enter Try.func27, Try.ntmps27
      go_wp2_with fail
      go_ret
      exact ⟨rfl, (Below.refl _ _).alloc (Nat.le_refl _) _⟩
    · rw [if_neg h1] at he
      subst he
      have i1 : ¬ (256 : Int) < (tx.size : Int) := by omega
      clear h0 hs
      go_enter Try.func27, Try.ntmps27
      go_wp2_with fail
      go_ret
      exact ⟨rfl, (Below.refl _ _).alloc (Nat.le_refl _) _⟩
set_option maxRecDepth 20000 in
set_option maxHeartbeats 4000000 in
theorem pg_arm (s : ByteArray) (t : Int) (N : Nat) (hs : s.size ≤ maxLen) (e : Nat) (he : Pg.wArm N (s, t) = e) (w : World) : Calls Try.prog 30 #[.agg #[.string s, .int .i64 t], .int .i64 N] w fun r w' => r = .returned (.int .i64 e) ∧ Below w.heap.size w w' := by
  have hm : maxLen ≤ 9223372036854775807 := by unfold maxLen; omega
  unfold Pg.wArm at he
  dsimp only at he
  by_cases h64 : 64 < s.size
  · rw [if_pos h64] at he
    subst he
    have i1 : (64 : Int) < (s.size : Int) := by omega
    go_enter Try.func30, Try.ntmps30
    go_wp2_with fail
    go_ret
    exact ⟨rfl, (Below.refl _ _).alloc (Nat.le_refl _) _⟩
  · rw [if_neg h64] at he
    have i1 : ¬ (64 : Int) < (s.size : Int) := by omega
    have h1000 : s.size ≤ 1000000 := by omega
    obtain ⟨p, hp⟩ : ∃ p, Ar.pl s = p := ⟨_, rfl⟩
    obtain ⟨q, hq⟩ : ∃ q, Ar.ck s = q := ⟨_, rfl⟩
    rw [hq] at he
    have HC := Lib.hid (And.intro hp hq)
    clear hp hq
    obtain ⟨W0, hW0⟩ : ∃ W0, w.alloc (.cells #[.string s, .int .i64 t] 38) = W0 := ⟨_, rfl⟩
    have HB : Hid (Blk W0 w.heap.size [.string s, .int .i64 t] 38 ∧ Below w.heap.size w W0) := Lib.hid (by rw [← hW0]; exact ⟨Blk.newA _ _ _, (Below.refl _ _).alloc (Nat.le_refl _) _⟩)
    by_cases h0 : q = 0
    · rw [if_neg (not_not_intro h0)] at he
      have i2 : (q : Int) = 0 := by omega
      obtain ⟨b, hb⟩ : ∃ b, Pg.inB t 0 N = b := ⟨_, rfl⟩
      rw [hb] at he
      have HI := Lib.hid hb
      cases b with
      | true =>
        simp only [if_true] at he
        subst he
        clear hb h64 h0
        go_enter Try.func30, Try.ntmps30
        go_upto_region 1 with fail
        (try rw [hW0])
        have c0 := HB.out.1.cell (i := 0) rfl
        have c1 := HB.out.1.cell (i := 1) rfl
        clear hW0
        go_wp2_with (first
          | (go_at_call 31; refine (ar_check s h1000 p q HC.out.1 HC.out.2 _).mono ?_; rintro e W1 ⟨rfl, hb1⟩; have HD := Lib.hid (And.intro (HB.out.1.below hb1 HB.out.1.lt) (HB.out.2.trans (hb1.mono HB.out.2.size))); clear hb1 c0 c1; have c0 := HD.out.1.cell (i := 0) rfl; have c1 := HD.out.1.cell (i := 1) rfl)
          | (go_at_call 17; refine (pg_inn t 0 N _ HI.out _).mono ?_; rintro e W2 ⟨rfl, rfl⟩)
          | fail)
        go_ret
        exact ⟨rfl, HD.out.2⟩
      | false =>
        simp only [Bool.false_eq_true, if_false] at he
        subst he
        clear hb h64 h0
        go_enter Try.func30, Try.ntmps30
        go_upto_region 1 with fail
        (try rw [hW0])
        have c0 := HB.out.1.cell (i := 0) rfl
        have c1 := HB.out.1.cell (i := 1) rfl
        clear hW0
        go_wp2_with (first
          | (go_at_call 31; refine (ar_check s h1000 p q HC.out.1 HC.out.2 _).mono ?_; rintro e W1 ⟨rfl, hb1⟩; have HD := Lib.hid (And.intro (HB.out.1.below hb1 HB.out.1.lt) (HB.out.2.trans (hb1.mono HB.out.2.size))); clear hb1 c0 c1; have c0 := HD.out.1.cell (i := 0) rfl; have c1 := HD.out.1.cell (i := 1) rfl)
          | (go_at_call 17; refine (pg_inn t 0 N _ HI.out _).mono ?_; rintro e W2 ⟨rfl, rfl⟩)
          | fail)
        go_ret
        exact ⟨rfl, HD.out.2⟩
    · rw [if_pos h0] at he
      subst he
      have i2 : ¬ (q : Int) = 0 := by omega
      clear h64 h0
      go_enter Try.func30, Try.ntmps30
      go_upto_region 1 with fail
      (try rw [hW0])
      have c0 := HB.out.1.cell (i := 0) rfl
      have c1 := HB.out.1.cell (i := 1) rfl
      clear hW0
      go_wp2_with (first
        | (go_at_call 31; refine (ar_check s h1000 p q HC.out.1 HC.out.2 _).mono ?_; rintro e W1 ⟨rfl, hb1⟩; have HD := Lib.hid (And.intro (HB.out.1.below hb1 HB.out.1.lt) (HB.out.2.trans (hb1.mono HB.out.2.size))); clear hb1 c0 c1; have c0 := HD.out.1.cell (i := 0) rfl; have c1 := HD.out.1.cell (i := 1) rfl)
        | (go_at_call 17; refine (pg_inn t 0 N _ HI.out _).mono ?_; rintro e W2 ⟨rfl, rfl⟩)
        | fail)
      go_ret
      exact ⟨rfl, HD.out.2⟩
/-- An op's box and the result's, one behind the other. -/
def OB (w0 w : World) (cs rs : List Value) : Prop := Blk w w0.heap.size cs 27 ∧ Blk w (w0.heap.size + 1) rs 27 ∧ Below w0.heap.size w0 w
theorem OB.set {w0 w : World} {cs rs : List Value} (h : OB w0 w cs rs) (i : Nat) (v : Value) : OB w0 (w.setCell ⟨w0.heap.size + 1, i, none⟩ v) cs (rs.set i v) :=
  ⟨h.1.other (by omega) i v, h.2.1.set i v, h.2.2.trans (((Chg.refl [w0.heap.size + 1] w).set (Or.inl (by simp)) i v).below h.2.2.size (by simp))⟩
theorem OB.new (w : World) (cs rs : Array Value) : OB w ((w.alloc (.cells cs 27)).alloc (.cells rs 27)) cs.toList rs.toList := by
  have b := Blk.newA (w.alloc (.cells cs 27)) rs 27
  have e : (w.alloc (.cells cs 27)).heap.size = w.heap.size + 1 := by simp
  rw [e] at b
  exact ⟨(Blk.newA w cs 27).alloc _, b, ((Below.refl _ _).alloc (Nat.le_refl _) _).alloc (by simp) _⟩
set_option maxRecDepth 20000 in
set_option maxHeartbeats 4000000 in
theorem pg_own1 (k : Int) (tx : ByteArray) (n to1 : Int) (aa : Option Addr) (al ac : Nat) (ot oe : Int) (hk : k = 1) (w : World) : Calls Try.prog 26 #[.agg #[.int .i64 k, .string tx, .int .i64 n, .int .i64 to1, .slice aa al ac, .int .i64 ot, .int .i64 oe]] w fun r w' => r = .returned (.agg #[.int .i64 k, .string tx, .int .i64 0, .int .i64 0, .slice none 0 0, .int .i64 0, .int .i64 0]) ∧ Below w.heap.size w w' := by
  subst hk
  have H0 := Lib.hid (OB.new w #[.int .i64 1, .string tx, .int .i64 n, .int .i64 to1, .slice aa al ac, .int .i64 ot, .int .i64 oe] #[.int .i64 0, .string ⟨#[]⟩, .int .i64 0, .int .i64 0, .slice none 0 0, .int .i64 0, .int .i64 0])
  go_enter Try.func26, Try.ntmps26
  go_upto_region 1 with fail
  revert H0
  generalize ((w.alloc (.cells #[.int .i64 1, .string tx, .int .i64 n, .int .i64 to1, .slice aa al ac, .int .i64 ot, .int .i64 oe] 27)).alloc (.cells #[.int .i64 0, .string ⟨#[]⟩, .int .i64 0, .int .i64 0, .slice none 0 0, .int .i64 0, .int .i64 0] 27)) = W0
  intro H0
  have c0 := H0.out.1.cell (i := 0) rfl
  have z0 := H0.out.2.1.cell (i := 0) rfl
  have f0 := H0.out.2.1.free 0
  have c1 := H0.out.1.cell (i := 1) rfl
  have z1 := H0.out.2.1.cell (i := 1) rfl
  have f1 := H0.out.2.1.free 1
  have c2 := H0.out.1.cell (i := 2) rfl
  have z2 := H0.out.2.1.cell (i := 2) rfl
  have f2 := H0.out.2.1.free 2
  have c3 := H0.out.1.cell (i := 3) rfl
  have z3 := H0.out.2.1.cell (i := 3) rfl
  have f3 := H0.out.2.1.free 3
  have c4 := H0.out.1.cell (i := 4) rfl
  have z4 := H0.out.2.1.cell (i := 4) rfl
  have f4 := H0.out.2.1.free 4
  have c5 := H0.out.1.cell (i := 5) rfl
  have z5 := H0.out.2.1.cell (i := 5) rfl
  have f5 := H0.out.2.1.free 5
  have c6 := H0.out.1.cell (i := 6) rfl
  have z6 := H0.out.2.1.cell (i := 6) rfl
  have f6 := H0.out.2.1.free 6
  go_wp2_with fail
  have HZ := Lib.hid ((((((((H0.out.set 0 (.int .i64 1)).set 1 (.string tx)).set 2 (.int .i64 0)).set 3 (.int .i64 0)).set 4 (.slice none 0 0)).set 5 (.int .i64 0)).set 6 (.int .i64 0)))
  clear c0 z0 f0 c1 z1 f1 c2 z2 f2 c3 z3 f3 c4 z4 f4 c5 z5 f5 c6 z6 f6
  revert HZ
  generalize (((((((W0.setCell ⟨w.heap.size + 1, 0, none⟩ (.int .i64 1)).setCell ⟨w.heap.size + 1, 1, none⟩ (.string tx)).setCell ⟨w.heap.size + 1, 2, none⟩ (.int .i64 0)).setCell ⟨w.heap.size + 1, 3, none⟩ (.int .i64 0)).setCell ⟨w.heap.size + 1, 4, none⟩ (.slice none 0 0)).setCell ⟨w.heap.size + 1, 5, none⟩ (.int .i64 0)).setCell ⟨w.heap.size + 1, 6, none⟩ (.int .i64 0)) = W9
  intro HZ
  have r0 := HZ.out.2.1.cell (i := 0) rfl
  have r1 := HZ.out.2.1.cell (i := 1) rfl
  have r2 := HZ.out.2.1.cell (i := 2) rfl
  have r3 := HZ.out.2.1.cell (i := 3) rfl
  have r4 := HZ.out.2.1.cell (i := 4) rfl
  have r5 := HZ.out.2.1.cell (i := 5) rfl
  have r6 := HZ.out.2.1.cell (i := 6) rfl
  refine bodyPost_ret (v := .agg #[.int .i64 1, .string tx, .int .i64 0, .int .i64 0, .slice none 0 0, .int .i64 0, .int .i64 0]) (by simp [results, Try.results26, go_sem, r0, r1, r2, r3, r4, r5, r6]) rfl ?_
  exact ⟨rfl, HZ.out.2.2⟩
set_option maxRecDepth 20000 in
set_option maxHeartbeats 4000000 in
theorem pg_own2 (k : Int) (tx : ByteArray) (n to1 : Int) (aa : Option Addr) (al ac : Nat) (ot oe : Int) (hk : k = 2) (w : World) : Calls Try.prog 26 #[.agg #[.int .i64 k, .string tx, .int .i64 n, .int .i64 to1, .slice aa al ac, .int .i64 ot, .int .i64 oe]] w fun r w' => r = .returned (.agg #[.int .i64 k, .string ⟨#[]⟩, .int .i64 n, .int .i64 0, .slice aa al ac, .int .i64 ot, .int .i64 oe]) ∧ Below w.heap.size w w' := by
  subst hk
  have H0 := Lib.hid (OB.new w #[.int .i64 2, .string tx, .int .i64 n, .int .i64 to1, .slice aa al ac, .int .i64 ot, .int .i64 oe] #[.int .i64 0, .string ⟨#[]⟩, .int .i64 0, .int .i64 0, .slice none 0 0, .int .i64 0, .int .i64 0])
  go_enter Try.func26, Try.ntmps26
  go_upto_region 1 with fail
  revert H0
  generalize ((w.alloc (.cells #[.int .i64 2, .string tx, .int .i64 n, .int .i64 to1, .slice aa al ac, .int .i64 ot, .int .i64 oe] 27)).alloc (.cells #[.int .i64 0, .string ⟨#[]⟩, .int .i64 0, .int .i64 0, .slice none 0 0, .int .i64 0, .int .i64 0] 27)) = W0
  intro H0
  have c0 := H0.out.1.cell (i := 0) rfl
  have z0 := H0.out.2.1.cell (i := 0) rfl
  have f0 := H0.out.2.1.free 0
  have c1 := H0.out.1.cell (i := 1) rfl
  have z1 := H0.out.2.1.cell (i := 1) rfl
  have f1 := H0.out.2.1.free 1
  have c2 := H0.out.1.cell (i := 2) rfl
  have z2 := H0.out.2.1.cell (i := 2) rfl
  have f2 := H0.out.2.1.free 2
  have c3 := H0.out.1.cell (i := 3) rfl
  have z3 := H0.out.2.1.cell (i := 3) rfl
  have f3 := H0.out.2.1.free 3
  have c4 := H0.out.1.cell (i := 4) rfl
  have z4 := H0.out.2.1.cell (i := 4) rfl
  have f4 := H0.out.2.1.free 4
  have c5 := H0.out.1.cell (i := 5) rfl
  have z5 := H0.out.2.1.cell (i := 5) rfl
  have f5 := H0.out.2.1.free 5
  have c6 := H0.out.1.cell (i := 6) rfl
  have z6 := H0.out.2.1.cell (i := 6) rfl
  have f6 := H0.out.2.1.free 6
  go_wp2_with fail
  have HZ := Lib.hid ((((((((H0.out.set 0 (.int .i64 2)).set 1 (.string ⟨#[]⟩)).set 2 (.int .i64 n)).set 3 (.int .i64 0)).set 4 (.slice aa al ac)).set 5 (.int .i64 ot)).set 6 (.int .i64 oe)))
  clear c0 z0 f0 c1 z1 f1 c2 z2 f2 c3 z3 f3 c4 z4 f4 c5 z5 f5 c6 z6 f6
  revert HZ
  generalize (((((((W0.setCell ⟨w.heap.size + 1, 0, none⟩ (.int .i64 2)).setCell ⟨w.heap.size + 1, 1, none⟩ (.string ⟨#[]⟩)).setCell ⟨w.heap.size + 1, 2, none⟩ (.int .i64 n)).setCell ⟨w.heap.size + 1, 3, none⟩ (.int .i64 0)).setCell ⟨w.heap.size + 1, 4, none⟩ (.slice aa al ac)).setCell ⟨w.heap.size + 1, 5, none⟩ (.int .i64 ot)).setCell ⟨w.heap.size + 1, 6, none⟩ (.int .i64 oe)) = W9
  intro HZ
  have r0 := HZ.out.2.1.cell (i := 0) rfl
  have r1 := HZ.out.2.1.cell (i := 1) rfl
  have r2 := HZ.out.2.1.cell (i := 2) rfl
  have r3 := HZ.out.2.1.cell (i := 3) rfl
  have r4 := HZ.out.2.1.cell (i := 4) rfl
  have r5 := HZ.out.2.1.cell (i := 5) rfl
  have r6 := HZ.out.2.1.cell (i := 6) rfl
  refine bodyPost_ret (v := .agg #[.int .i64 2, .string ⟨#[]⟩, .int .i64 n, .int .i64 0, .slice aa al ac, .int .i64 ot, .int .i64 oe]) (by simp [results, Try.results26, go_sem, r0, r1, r2, r3, r4, r5, r6]) rfl ?_
  exact ⟨rfl, HZ.out.2.2⟩
set_option maxRecDepth 20000 in
set_option maxHeartbeats 4000000 in
theorem pg_own3 (k : Int) (tx : ByteArray) (n to1 : Int) (aa : Option Addr) (al ac : Nat) (ot oe : Int) (hk : k = 3) (w : World) : Calls Try.prog 26 #[.agg #[.int .i64 k, .string tx, .int .i64 n, .int .i64 to1, .slice aa al ac, .int .i64 ot, .int .i64 oe]] w fun r w' => r = .returned (.agg #[.int .i64 k, .string ⟨#[]⟩, .int .i64 0, .int .i64 to1, .slice none 0 0, .int .i64 0, .int .i64 0]) ∧ Below w.heap.size w w' := by
  subst hk
  have H0 := Lib.hid (OB.new w #[.int .i64 3, .string tx, .int .i64 n, .int .i64 to1, .slice aa al ac, .int .i64 ot, .int .i64 oe] #[.int .i64 0, .string ⟨#[]⟩, .int .i64 0, .int .i64 0, .slice none 0 0, .int .i64 0, .int .i64 0])
  go_enter Try.func26, Try.ntmps26
  go_upto_region 1 with fail
  revert H0
  generalize ((w.alloc (.cells #[.int .i64 3, .string tx, .int .i64 n, .int .i64 to1, .slice aa al ac, .int .i64 ot, .int .i64 oe] 27)).alloc (.cells #[.int .i64 0, .string ⟨#[]⟩, .int .i64 0, .int .i64 0, .slice none 0 0, .int .i64 0, .int .i64 0] 27)) = W0
  intro H0
  have c0 := H0.out.1.cell (i := 0) rfl
  have z0 := H0.out.2.1.cell (i := 0) rfl
  have f0 := H0.out.2.1.free 0
  have c1 := H0.out.1.cell (i := 1) rfl
  have z1 := H0.out.2.1.cell (i := 1) rfl
  have f1 := H0.out.2.1.free 1
  have c2 := H0.out.1.cell (i := 2) rfl
  have z2 := H0.out.2.1.cell (i := 2) rfl
  have f2 := H0.out.2.1.free 2
  have c3 := H0.out.1.cell (i := 3) rfl
  have z3 := H0.out.2.1.cell (i := 3) rfl
  have f3 := H0.out.2.1.free 3
  have c4 := H0.out.1.cell (i := 4) rfl
  have z4 := H0.out.2.1.cell (i := 4) rfl
  have f4 := H0.out.2.1.free 4
  have c5 := H0.out.1.cell (i := 5) rfl
  have z5 := H0.out.2.1.cell (i := 5) rfl
  have f5 := H0.out.2.1.free 5
  have c6 := H0.out.1.cell (i := 6) rfl
  have z6 := H0.out.2.1.cell (i := 6) rfl
  have f6 := H0.out.2.1.free 6
  go_wp2_with fail
  have HZ := Lib.hid ((((((((H0.out.set 0 (.int .i64 3)).set 1 (.string ⟨#[]⟩)).set 2 (.int .i64 0)).set 3 (.int .i64 to1)).set 4 (.slice none 0 0)).set 5 (.int .i64 0)).set 6 (.int .i64 0)))
  clear c0 z0 f0 c1 z1 f1 c2 z2 f2 c3 z3 f3 c4 z4 f4 c5 z5 f5 c6 z6 f6
  revert HZ
  generalize (((((((W0.setCell ⟨w.heap.size + 1, 0, none⟩ (.int .i64 3)).setCell ⟨w.heap.size + 1, 1, none⟩ (.string ⟨#[]⟩)).setCell ⟨w.heap.size + 1, 2, none⟩ (.int .i64 0)).setCell ⟨w.heap.size + 1, 3, none⟩ (.int .i64 to1)).setCell ⟨w.heap.size + 1, 4, none⟩ (.slice none 0 0)).setCell ⟨w.heap.size + 1, 5, none⟩ (.int .i64 0)).setCell ⟨w.heap.size + 1, 6, none⟩ (.int .i64 0)) = W9
  intro HZ
  have r0 := HZ.out.2.1.cell (i := 0) rfl
  have r1 := HZ.out.2.1.cell (i := 1) rfl
  have r2 := HZ.out.2.1.cell (i := 2) rfl
  have r3 := HZ.out.2.1.cell (i := 3) rfl
  have r4 := HZ.out.2.1.cell (i := 4) rfl
  have r5 := HZ.out.2.1.cell (i := 5) rfl
  have r6 := HZ.out.2.1.cell (i := 6) rfl
  refine bodyPost_ret (v := .agg #[.int .i64 3, .string ⟨#[]⟩, .int .i64 0, .int .i64 to1, .slice none 0 0, .int .i64 0, .int .i64 0]) (by simp [results, Try.results26, go_sem, r0, r1, r2, r3, r4, r5, r6]) rfl ?_
  exact ⟨rfl, HZ.out.2.2⟩
set_option maxRecDepth 20000 in
set_option maxHeartbeats 4000000 in
theorem pg_own4 (k : Int) (tx : ByteArray) (n to1 : Int) (aa : Option Addr) (al ac : Nat) (ot oe : Int) (hk : k = 4) (w : World) : Calls Try.prog 26 #[.agg #[.int .i64 k, .string tx, .int .i64 n, .int .i64 to1, .slice aa al ac, .int .i64 ot, .int .i64 oe]] w fun r w' => r = .returned (.agg #[.int .i64 k, .string ⟨#[]⟩, .int .i64 n, .int .i64 0, .slice none 0 0, .int .i64 0, .int .i64 0]) ∧ Below w.heap.size w w' := by
  subst hk
  have H0 := Lib.hid (OB.new w #[.int .i64 4, .string tx, .int .i64 n, .int .i64 to1, .slice aa al ac, .int .i64 ot, .int .i64 oe] #[.int .i64 0, .string ⟨#[]⟩, .int .i64 0, .int .i64 0, .slice none 0 0, .int .i64 0, .int .i64 0])
  go_enter Try.func26, Try.ntmps26
  go_upto_region 1 with fail
  revert H0
  generalize ((w.alloc (.cells #[.int .i64 4, .string tx, .int .i64 n, .int .i64 to1, .slice aa al ac, .int .i64 ot, .int .i64 oe] 27)).alloc (.cells #[.int .i64 0, .string ⟨#[]⟩, .int .i64 0, .int .i64 0, .slice none 0 0, .int .i64 0, .int .i64 0] 27)) = W0
  intro H0
  have c0 := H0.out.1.cell (i := 0) rfl
  have z0 := H0.out.2.1.cell (i := 0) rfl
  have f0 := H0.out.2.1.free 0
  have c1 := H0.out.1.cell (i := 1) rfl
  have z1 := H0.out.2.1.cell (i := 1) rfl
  have f1 := H0.out.2.1.free 1
  have c2 := H0.out.1.cell (i := 2) rfl
  have z2 := H0.out.2.1.cell (i := 2) rfl
  have f2 := H0.out.2.1.free 2
  have c3 := H0.out.1.cell (i := 3) rfl
  have z3 := H0.out.2.1.cell (i := 3) rfl
  have f3 := H0.out.2.1.free 3
  have c4 := H0.out.1.cell (i := 4) rfl
  have z4 := H0.out.2.1.cell (i := 4) rfl
  have f4 := H0.out.2.1.free 4
  have c5 := H0.out.1.cell (i := 5) rfl
  have z5 := H0.out.2.1.cell (i := 5) rfl
  have f5 := H0.out.2.1.free 5
  have c6 := H0.out.1.cell (i := 6) rfl
  have z6 := H0.out.2.1.cell (i := 6) rfl
  have f6 := H0.out.2.1.free 6
  go_wp2_with fail
  have HZ := Lib.hid ((((((((H0.out.set 0 (.int .i64 4)).set 1 (.string ⟨#[]⟩)).set 2 (.int .i64 n)).set 3 (.int .i64 0)).set 4 (.slice none 0 0)).set 5 (.int .i64 0)).set 6 (.int .i64 0)))
  clear c0 z0 f0 c1 z1 f1 c2 z2 f2 c3 z3 f3 c4 z4 f4 c5 z5 f5 c6 z6 f6
  revert HZ
  generalize (((((((W0.setCell ⟨w.heap.size + 1, 0, none⟩ (.int .i64 4)).setCell ⟨w.heap.size + 1, 1, none⟩ (.string ⟨#[]⟩)).setCell ⟨w.heap.size + 1, 2, none⟩ (.int .i64 n)).setCell ⟨w.heap.size + 1, 3, none⟩ (.int .i64 0)).setCell ⟨w.heap.size + 1, 4, none⟩ (.slice none 0 0)).setCell ⟨w.heap.size + 1, 5, none⟩ (.int .i64 0)).setCell ⟨w.heap.size + 1, 6, none⟩ (.int .i64 0)) = W9
  intro HZ
  have r0 := HZ.out.2.1.cell (i := 0) rfl
  have r1 := HZ.out.2.1.cell (i := 1) rfl
  have r2 := HZ.out.2.1.cell (i := 2) rfl
  have r3 := HZ.out.2.1.cell (i := 3) rfl
  have r4 := HZ.out.2.1.cell (i := 4) rfl
  have r5 := HZ.out.2.1.cell (i := 5) rfl
  have r6 := HZ.out.2.1.cell (i := 6) rfl
  refine bodyPost_ret (v := .agg #[.int .i64 4, .string ⟨#[]⟩, .int .i64 n, .int .i64 0, .slice none 0 0, .int .i64 0, .int .i64 0]) (by simp [results, Try.results26, go_sem, r0, r1, r2, r3, r4, r5, r6]) rfl ?_
  exact ⟨rfl, HZ.out.2.2⟩
set_option maxRecDepth 20000 in
set_option maxHeartbeats 4000000 in
theorem pg_own5 (k : Int) (tx : ByteArray) (n to1 : Int) (aa : Option Addr) (al ac : Nat) (ot oe : Int) (h1 : ¬ k = 1) (h2 : ¬ k = 2) (h3 : ¬ k = 3) (h4 : ¬ k = 4) (w : World) : Calls Try.prog 26 #[.agg #[.int .i64 k, .string tx, .int .i64 n, .int .i64 to1, .slice aa al ac, .int .i64 ot, .int .i64 oe]] w fun r w' => r = .returned (.agg #[.int .i64 k, .string ⟨#[]⟩, .int .i64 0, .int .i64 0, .slice none 0 0, .int .i64 0, .int .i64 0]) ∧ Below w.heap.size w w' := by
  have g1 : (k == 1) = false := by simpa using h1
  have g2 : (k == 2) = false := by simpa using h2
  have g3 : (k == 3) = false := by simpa using h3
  have g4 : (k == 4) = false := by simpa using h4
  clear h1 h2 h3 h4
  have H0 := Lib.hid (OB.new w #[.int .i64 k, .string tx, .int .i64 n, .int .i64 to1, .slice aa al ac, .int .i64 ot, .int .i64 oe] #[.int .i64 0, .string ⟨#[]⟩, .int .i64 0, .int .i64 0, .slice none 0 0, .int .i64 0, .int .i64 0])
  go_enter Try.func26, Try.ntmps26
  go_upto_region 1 with fail
  revert H0
  generalize ((w.alloc (.cells #[.int .i64 k, .string tx, .int .i64 n, .int .i64 to1, .slice aa al ac, .int .i64 ot, .int .i64 oe] 27)).alloc (.cells #[.int .i64 0, .string ⟨#[]⟩, .int .i64 0, .int .i64 0, .slice none 0 0, .int .i64 0, .int .i64 0] 27)) = W0
  intro H0
  have c0 := H0.out.1.cell (i := 0) rfl
  have z0 := H0.out.2.1.cell (i := 0) rfl
  have f0 := H0.out.2.1.free 0
  have c1 := H0.out.1.cell (i := 1) rfl
  have z1 := H0.out.2.1.cell (i := 1) rfl
  have f1 := H0.out.2.1.free 1
  have c2 := H0.out.1.cell (i := 2) rfl
  have z2 := H0.out.2.1.cell (i := 2) rfl
  have f2 := H0.out.2.1.free 2
  have c3 := H0.out.1.cell (i := 3) rfl
  have z3 := H0.out.2.1.cell (i := 3) rfl
  have f3 := H0.out.2.1.free 3
  have c4 := H0.out.1.cell (i := 4) rfl
  have z4 := H0.out.2.1.cell (i := 4) rfl
  have f4 := H0.out.2.1.free 4
  have c5 := H0.out.1.cell (i := 5) rfl
  have z5 := H0.out.2.1.cell (i := 5) rfl
  have f5 := H0.out.2.1.free 5
  have c6 := H0.out.1.cell (i := 6) rfl
  have z6 := H0.out.2.1.cell (i := 6) rfl
  have f6 := H0.out.2.1.free 6
  go_wp2_with fail
  have HZ := Lib.hid ((((((((H0.out.set 0 (.int .i64 k)).set 1 (.string ⟨#[]⟩)).set 2 (.int .i64 0)).set 3 (.int .i64 0)).set 4 (.slice none 0 0)).set 5 (.int .i64 0)).set 6 (.int .i64 0)))
  clear c0 z0 f0 c1 z1 f1 c2 z2 f2 c3 z3 f3 c4 z4 f4 c5 z5 f5 c6 z6 f6
  revert HZ
  generalize (((((((W0.setCell ⟨w.heap.size + 1, 0, none⟩ (.int .i64 k)).setCell ⟨w.heap.size + 1, 1, none⟩ (.string ⟨#[]⟩)).setCell ⟨w.heap.size + 1, 2, none⟩ (.int .i64 0)).setCell ⟨w.heap.size + 1, 3, none⟩ (.int .i64 0)).setCell ⟨w.heap.size + 1, 4, none⟩ (.slice none 0 0)).setCell ⟨w.heap.size + 1, 5, none⟩ (.int .i64 0)).setCell ⟨w.heap.size + 1, 6, none⟩ (.int .i64 0)) = W9
  intro HZ
  have r0 := HZ.out.2.1.cell (i := 0) rfl
  have r1 := HZ.out.2.1.cell (i := 1) rfl
  have r2 := HZ.out.2.1.cell (i := 2) rfl
  have r3 := HZ.out.2.1.cell (i := 3) rfl
  have r4 := HZ.out.2.1.cell (i := 4) rfl
  have r5 := HZ.out.2.1.cell (i := 5) rfl
  have r6 := HZ.out.2.1.cell (i := 6) rfl
  refine bodyPost_ret (v := .agg #[.int .i64 k, .string ⟨#[]⟩, .int .i64 0, .int .i64 0, .slice none 0 0, .int .i64 0, .int .i64 0]) (by simp [results, Try.results26, go_sem, r0, r1, r2, r3, r4, r5, r6]) rfl ?_
  exact ⟨rfl, HZ.out.2.2⟩
end Go.Proofs.Ytoniipmgkoogbaa
/- Scripts: arms read; ops held against each other; what is wrong of an op. -/
namespace Go.Proofs.Ytoniipmgkoogbaa
open Go.ChangeShapes Go.WideShapes Go.ChangeAt Go.RowKit
set_option linter.unusedSimpArgs false
set_option linter.unusedVariables false


/-- A slice (at a) of arms: the first L.length of them are L. -/
def AL (w : World) (a : Option Addr) (L : List (ByteArray × Int)) : Prop := ∀ (i : Nat) (s : ByteArray) (t : Int), L[i]? = some (s, t) → s.size ≤ maxLen ∧ ∃ g o, a = some ⟨g, o, none⟩ ∧ g < w.heap.size ∧ w.cell? ⟨g, o + i * 2, none⟩ = some (.string s) ∧ w.cell? ⟨g, o + i * 2 + 1, none⟩ = some (.int .i64 t)
theorem AL.nil (w : World) (a : Option Addr) : AL w a [] := fun i s t h => by simp at h
theorem AL.below {w w' : World} {a : Option Addr} {L : List (ByteArray × Int)} (h : AL w a L) (k : Below w.heap.size w w') : AL w' a L := fun i s t hi => by
  obtain ⟨h0, g, o, h1, h2, h3, h4⟩ := h i s t hi
  exact ⟨h0, g, o, h1, Nat.lt_of_lt_of_le h2 k.size, by rw [← h3]; exact Chg.cell (l := []) (Chg.of_fresh k) h2 (by simp), by rw [← h4]; exact Chg.cell (l := []) (Chg.of_fresh k) h2 (by simp)⟩
theorem toList_ne {s t : ByteArray} (h : ¬ s = t) : ¬ s.toList = t.toList := fun e => h (by
  rw [Lib.toList_data, Lib.toList_data] at e
  cases s with | mk a => cases t with | mk b => simp at e; subst e; rfl)
theorem str_ne {s t : ByteArray} (h : ¬ s = t) : (s.toList == t.toList) = false := by
  have h2 := toList_ne h
  simpa using h2
theorem eqArm (s t : ByteArray) (x y : Int) (w : World) : (Op.equalIn 10000 38 (.agg #[.string s, .int .i64 x]) (.agg #[.string t, .int .i64 y])).run Try.prog w = .ok (decide ((s, x) = (t, y))) w := by
  have hst : Try.prog.stoodInHeld 38 = false := by kernel_rfl
  show (Op.equalIn (9999 + 1) _ _ _).run _ _ = _
  rw [Op.equalIn]
  by_cases h1 : s = t
  · subst h1
    by_cases h2 : x = y
    · subst h2
      simp [go_sem, run_underlying Try.underlying38, part, hst]
    · simp [go_sem, run_underlying Try.underlying38, part, hst, h2]
  · have h3 := toList_ne h1
    simp [go_sem, run_underlying Try.underlying38, part, hst, h1, h3]
theorem bel_drewN (w : World) (n : Nat) : Below w.heap.size w (w.drewN n) := ((Chg.refl [] w).drewN n).below (Nat.le_refl _) (by simp)
set_option maxRecDepth 20000 in
set_option maxHeartbeats 4000000 in
theorem pg_equal (L1 L2 : List (ByteArray × Int)) (n1 n2 : Nat) (h1 : L1.length = n1) (h2 : L2.length = n2) (m1 : n1 ≤ maxLen) (a1 a2 : Option Addr) (c1 c2 : Nat) (b : Bool) (hb : decide (L1 = L2) = b) (w : World) (H1 : AL w a1 L1) (H2 : AL w a2 L2) :
    Calls Try.prog 29 #[.slice a1 n1 c1, .slice a2 n2 c2] w fun e w' => e = .returned (.bool b) ∧ Below w.heap.size w w' := by
  have hm : maxLen ≤ 9223372036854775807 := by unfold maxLen; omega
  by_cases hn : n1 = n2
  · subst hn
    have HL := Lib.hid (And.intro h1 (And.intro h2 hb))
    have HA := Lib.hid (And.intro H1 H2)
    clear h1 h2 hb H1 H2
    go_enter Try.func29, Try.ntmps29
    go_wp2
    go_loopw [5, 13] (fun _ i wr => ∃ k q : Nat, i = .int .i64 k ∧ k ≤ n1 ∧ Hid (∀ j, j < k → L1[j]? = L2[j]?) ∧ wr = w.drewN q) (fun _ i _ => n1 - (intOf i).toNat)
    case atStart => exact ⟨0, 0, rfl, by omega, Lib.hid (fun j hj => by omega), rfl⟩
    case round =>
      obtain ⟨k, q, rfl, hk, HK, rfl⟩ := hrel
      have i0 : (0 : Int) ≤ (k : Int) := by omega
      by_cases hkn : k < n1
      · have i1 : (k : Int) < (n1 : Int) := by omega
        have w1 : IntKind.i64.wrap ((k : Int) + 1) = (k : Int) + 1 := IntWalk.i64_in _ (by omega)
        obtain ⟨s1, t1, e1⟩ : ∃ s t, L1[k]? = some (s, t) := ⟨_, _, List.getElem?_eq_getElem (by rw [HL.out.1]; exact hkn)⟩
        obtain ⟨s2, t2, e2⟩ : ∃ s t, L2[k]? = some (s, t) := ⟨_, _, List.getElem?_eq_getElem (by rw [HL.out.2.1]; exact hkn)⟩
        obtain ⟨_, g1, o1, rfl, _, d1, d2⟩ := HA.out.1 k s1 t1 e1
        obtain ⟨_, g2, o2, rfl, _, d3, d4⟩ := HA.out.2 k s2 t2 e2
        have eqp := eqArm s1 s2 t1 t2
        by_cases hp : (s1, t1) = (s2, t2)
        · rw [decide_eq_true hp] at eqp
          have HK2 : Hid (∀ j, j < k + 1 → L1[j]? = L2[j]?) := Lib.hid (fun j hj => by
            by_cases e : j = k
            · rw [e, e1, e2, hp]
            · exact HK.out j (by omega))
          clear e1 e2 hp HK
          go_wp2_with fail
          go_quiet (fail)
          go_wp2
          go_roundw
          case rel => exact ⟨k + 1, q + nq, by go_num, by omega, HK2, by simp [World.drewN_drewN]⟩
          case measure => simp [intOf]; omega
        · rw [decide_eq_false hp] at eqp
          have HF : Hid (b = false) := Lib.hid (by
            rw [← HL.out.2.2]
            refine decide_eq_false (fun e => hp ?_)
            rw [e, e2] at e1
            exact (Option.some.inj e1).symm)
          clear e1 e2 hp HK
          go_wp2_with fail
          go_quiet (fail)
          go_wp2
          go_ret
          exact ⟨by rw [HF.out]; rfl, by rw [World.drewN_drewN]; exact bel_drewN _ _⟩
      · have i1 : ¬ (k : Int) < (n1 : Int) := by omega
        have HT : Hid (b = true) := Lib.hid (by
          rw [← HL.out.2.2]
          refine decide_eq_true (List.ext_getElem? fun j => ?_)
          by_cases hj : j < k
          · exact HK.out j hj
          · rw [List.getElem?_eq_none (by rw [HL.out.1]; omega), List.getElem?_eq_none (by rw [HL.out.2.1]; omega)])
        go_wp2
        go_ret
        exact ⟨by rw [HT.out]; rfl, bel_drewN _ _⟩
  · obtain rfl : false = b := by
      rw [← hb]
      exact (decide_eq_false (fun e => hn (by rw [← h1, ← h2, e]))).symm
    have i1 : ((n1 : Int) == (n2 : Int)) = false := by simpa using (show ¬ (n1 : Int) = (n2 : Int) by omega)
    clear hb h1 h2 H1 H2
    go_enter Try.func29, Try.ntmps29
    go_wp2
    go_ret
    exact ⟨rfl, Below.refl _ _⟩
theorem bel2 (w : World) (o1 o2 : Obj) : Below w.heap.size w ((w.alloc o1).alloc o2) := ((Below.refl _ _).alloc (Nat.le_refl _) _).alloc (by simp) _
theorem bx2 {w W1 : World} {b0 b1 b2 b3 b4 b5 b6 d0 d1 d2 d3 d4 d5 d6 : Value} {T : TypeId} (h : Below ((w.alloc (.cells #[b0, b1, b2, b3, b4, b5, b6] T)).alloc (.cells #[d0, d1, d2, d3, d4, d5, d6] T)).heap.size ((w.alloc (.cells #[b0, b1, b2, b3, b4, b5, b6] T)).alloc (.cells #[d0, d1, d2, d3, d4, d5, d6] T)) W1) :
    W1.cell? ⟨w.heap.size, 5, none⟩ = some b5 ∧ W1.cell? ⟨w.heap.size, 6, none⟩ = some b6 ∧ W1.cell? ⟨w.heap.size + 1, 5, none⟩ = some d5 ∧ W1.cell? ⟨w.heap.size + 1, 6, none⟩ = some d6 := by
  have k1 := Blk.below ((Blk.newA w #[b0, b1, b2, b3, b4, b5, b6] T).alloc (.cells #[d0, d1, d2, d3, d4, d5, d6] T)) h (by simp; omega)
  have k2 := Blk.below (Blk.newA (w.alloc (.cells #[b0, b1, b2, b3, b4, b5, b6] T)) #[d0, d1, d2, d3, d4, d5, d6] T) h (by simp)
  have e : (w.alloc (.cells #[b0, b1, b2, b3, b4, b5, b6] T)).heap.size = w.heap.size + 1 := by simp
  rw [e] at k2
  exact ⟨k1.cell (i := 5) rfl, k1.cell (i := 6) rfl, k2.cell (i := 5) rfl, k2.cell (i := 6) rfl⟩
set_option maxRecDepth 20000 in
set_option maxHeartbeats 4000000 in
set_option maxRecDepth 20000 in
set_option maxHeartbeats 4000000 in
theorem pg_sameop (k1 k2 : Int) (x1 x2 : ByteArray) (n1 n2 t1 t2 : Int) (a1 a2 : Option Addr) (l1 l2 c1 c2 : Nat) (u1 u2 v1 v2 : Int) (L1 L2 : List (ByteArray × Int)) (h1 : L1.length = l1) (h2 : L2.length = l2) (m1 : l1 ≤ maxLen) (b : Bool) (hb : Pg.same ⟨k1, x1, n1, t1, L1, u1, v1⟩ ⟨k2, x2, n2, t2, L2, u2, v2⟩ = b) (w : World) (H1 : AL w a1 L1) (H2 : AL w a2 L2) :
    Calls Try.prog 24 #[.agg #[.int .i64 k1, .string x1, .int .i64 n1, .int .i64 t1, .slice a1 l1 c1, .int .i64 u1, .int .i64 v1], .agg #[.int .i64 k2, .string x2, .int .i64 n2, .int .i64 t2, .slice a2 l2 c2, .int .i64 u2, .int .i64 v2]] w fun e w' => e = .returned (.bool b) ∧ Below w.heap.size w w' := by
  unfold Pg.same at hb
  dsimp only at hb
  by_cases e0 : k1 = k2
  · subst e0
    by_cases e1 : x1 = x2
    · subst e1
      by_cases e2 : n1 = n2
      · subst e2
        by_cases e3 : t1 = t2
        · subst e3
          by_cases e4 : L1 = L2
          · have he : decide (L1 = L2) = true := decide_eq_true e4
            by_cases e5 : u1 = u2
            · subst e5
              by_cases e6 : v1 = v2
              · subst e6
                obtain rfl : true = b := by rw [← hb]; simp [e4]
                have HL := Lib.hid (And.intro h1 (And.intro h2 (And.intro he (And.intro H1 H2))))
                clear hb h1 h2 H1 H2 he e4
                go_enter Try.func24, Try.ntmps24
                go_wp2_with (first | (go_at_call 29; refine (pg_equal L1 L2 l1 l2 HL.out.1 HL.out.2.1 m1 a1 a2 c1 c2 _ HL.out.2.2.1 _ (HL.out.2.2.2.1.below (bel2 w _ _)) (HL.out.2.2.2.2.below (bel2 w _ _))).mono ?_; rintro e W1 ⟨rfl, hb1⟩; have HB := Lib.hid hb1; clear hb1; have p := bx2 HB.out; obtain ⟨p15, p16, p25, p26⟩ := p) | fail)
                go_ret
                exact ⟨rfl, (bel2 w _ _).trans (HB.out.mono (bel2 w _ _).size)⟩
              · obtain rfl : false = b := by rw [← hb]; simp [e6, e4]
                have g : (v1 == v2) = false := by simpa using e6
                have HL := Lib.hid (And.intro h1 (And.intro h2 (And.intro he (And.intro H1 H2))))
                clear hb h1 h2 H1 H2 he e6 e4
                go_enter Try.func24, Try.ntmps24
                go_wp2_with (first | (go_at_call 29; refine (pg_equal L1 L2 l1 l2 HL.out.1 HL.out.2.1 m1 a1 a2 c1 c2 _ HL.out.2.2.1 _ (HL.out.2.2.2.1.below (bel2 w _ _)) (HL.out.2.2.2.2.below (bel2 w _ _))).mono ?_; rintro e W1 ⟨rfl, hb1⟩; have HB := Lib.hid hb1; clear hb1; have p := bx2 HB.out; obtain ⟨p15, p16, p25, p26⟩ := p) | fail)
                go_ret
                exact ⟨rfl, (bel2 w _ _).trans (HB.out.mono (bel2 w _ _).size)⟩
            · obtain rfl : false = b := by rw [← hb]; simp [e5, e4]
              have g : (u1 == u2) = false := by simpa using e5
              have HL := Lib.hid (And.intro h1 (And.intro h2 (And.intro he (And.intro H1 H2))))
              clear hb h1 h2 H1 H2 he e5 e4
              go_enter Try.func24, Try.ntmps24
              go_wp2_with (first | (go_at_call 29; refine (pg_equal L1 L2 l1 l2 HL.out.1 HL.out.2.1 m1 a1 a2 c1 c2 _ HL.out.2.2.1 _ (HL.out.2.2.2.1.below (bel2 w _ _)) (HL.out.2.2.2.2.below (bel2 w _ _))).mono ?_; rintro e W1 ⟨rfl, hb1⟩; have HB := Lib.hid hb1; clear hb1; have p := bx2 HB.out; obtain ⟨p15, p16, p25, p26⟩ := p) | fail)
              go_ret
              exact ⟨rfl, (bel2 w _ _).trans (HB.out.mono (bel2 w _ _).size)⟩
          · obtain rfl : false = b := by rw [← hb]; simp [e4]
            have he : decide (L1 = L2) = false := decide_eq_false e4
            have HL := Lib.hid (And.intro h1 (And.intro h2 (And.intro he (And.intro H1 H2))))
            clear hb h1 h2 H1 H2 he e4
            go_enter Try.func24, Try.ntmps24
            go_wp2_with (first | (go_at_call 29; refine (pg_equal L1 L2 l1 l2 HL.out.1 HL.out.2.1 m1 a1 a2 c1 c2 _ HL.out.2.2.1 _ (HL.out.2.2.2.1.below (bel2 w _ _)) (HL.out.2.2.2.2.below (bel2 w _ _))).mono ?_; rintro e W1 ⟨rfl, hb1⟩; have HB := Lib.hid hb1; clear hb1; have p := bx2 HB.out; obtain ⟨p15, p16, p25, p26⟩ := p) | fail)
            go_ret
            exact ⟨rfl, (bel2 w _ _).trans (HB.out.mono (bel2 w _ _).size)⟩
        · obtain rfl : false = b := by rw [← hb]; simp [e3]
          have g : (t1 == t2) = false := by simpa using e3
          clear hb h1 h2 H1 H2 e3
          go_enter Try.func24, Try.ntmps24
          go_wp2_with fail
          go_ret
          exact ⟨rfl, ((Below.refl _ _).alloc (Nat.le_refl _) _).alloc (by simp) _⟩
      · obtain rfl : false = b := by rw [← hb]; simp [e2]
        have g : (n1 == n2) = false := by simpa using e2
        clear hb h1 h2 H1 H2 e2
        go_enter Try.func24, Try.ntmps24
        go_wp2_with fail
        go_ret
        exact ⟨rfl, ((Below.refl _ _).alloc (Nat.le_refl _) _).alloc (by simp) _⟩
    · obtain rfl : false = b := by rw [← hb]; simp [e1]
      have g := str_ne e1
      clear hb h1 h2 H1 H2 e1
      go_enter Try.func24, Try.ntmps24
      go_wp2_with fail
      go_ret
      exact ⟨rfl, ((Below.refl _ _).alloc (Nat.le_refl _) _).alloc (by simp) _⟩
  · obtain rfl : false = b := by rw [← hb]; simp [e0]
    have g : (k1 == k2) = false := by simpa using e0
    clear hb h1 h2 H1 H2 e0
    go_enter Try.func24, Try.ntmps24
    go_wp2_with fail
    go_ret
    exact ⟨rfl, ((Below.refl _ _).alloc (Nat.le_refl _) _).alloc (by simp) _⟩
end Go.Proofs.Ytoniipmgkoogbaa
/- Scripts: what is wrong of an expect, of an op. -/
namespace Go.Proofs.Ytoniipmgkoogbaa
open Go.ChangeShapes Go.WideShapes Go.ChangeAt Go.RowKit
set_option linter.unusedSimpArgs false
set_option linter.unusedVariables false


theorem wArms_at (N : Nat) (p : ByteArray × Int) : ∀ (l : List (ByteArray × Int)) (j : Nat), (∀ q p', q < j → l[q]? = some p' → Pg.wArm N p' = 0) → l[j]? = some p → Pg.wArm N p ≠ 0 → Pg.wArms N l = Pg.wArm N p
  | [], j, _, h, _ => by simp at h
  | a :: l, 0, _, h, h2 => by
    simp at h
    subst h
    unfold Pg.wArms
    rw [if_pos h2]
  | a :: l, j + 1, h0, h, h2 => by
    unfold Pg.wArms
    have ha := h0 0 a (by omega) (by simp)
    rw [if_neg (not_not_intro ha)]
    exact wArms_at N p l j (fun q p' hq hp => h0 (q + 1) p' (by omega) (by simpa using hp)) (by simpa using h) h2
theorem wArms_all (N : Nat) : ∀ (l : List (ByteArray × Int)), (∀ (q : Nat) p', l[q]? = some p' → Pg.wArm N p' = 0) → Pg.wArms N l = 0
  | [], _ => rfl
  | a :: l, h0 => by
    unfold Pg.wArms
    have ha := h0 0 a (by simp)
    rw [if_neg (not_not_intro ha)]
    exact wArms_all N l (fun q p' hp => h0 (q + 1) p' (by simpa using hp))
set_option maxRecDepth 20000 in
set_option maxHeartbeats 16000000 in
theorem pg_expect (k : Int) (tx : ByteArray) (n to1 : Int) (aa : Option Addr) (al ac : Nat) (ot oe : Int) (ar : List (ByteArray × Int)) (hl : ar.length = al) (hal : al ≤ maxLen) (N : Nat) (e : Nat) (he : Pg.wExp N ⟨k, tx, n, to1, ar, ot, oe⟩ = e) (w : World) (HA : AL w aa ar) : Calls Try.prog 28 #[.agg #[.int .i64 k, .string tx, .int .i64 n, .int .i64 to1, .slice aa al ac, .int .i64 ot, .int .i64 oe], .int .i64 N] w fun r w' => r = .returned (.int .i64 e) ∧ Below w.heap.size w w' := by
  have hm : maxLen ≤ 9223372036854775807 := by unfold maxLen; omega
  have HL := Lib.hid (And.intro hl HA)
  have HE := Lib.hid he
  clear hl HA he
  obtain ⟨bn, hbn⟩ : ∃ b, Pg.inB n 0 1000000000000 = b := ⟨_, rfl⟩
  have HI := Lib.hid hbn
  clear hbn
  go_enter Try.func28, Try.ntmps28
  go_upto_region 1 with fail
  have HB : Hid (Blk (w.alloc (.cells #[.int .i64 k, .string tx, .int .i64 n, .int .i64 to1, .slice aa al ac, .int .i64 ot, .int .i64 oe] 27)) w.heap.size [.int .i64 k, .string tx, .int .i64 n, .int .i64 to1, .slice aa al ac, .int .i64 ot, .int .i64 oe] 27 ∧ Below w.heap.size w (w.alloc (.cells #[.int .i64 k, .string tx, .int .i64 n, .int .i64 to1, .slice aa al ac, .int .i64 ot, .int .i64 oe] 27))) := Lib.hid ⟨Blk.newA _ _ _, (Below.refl _ _).alloc (Nat.le_refl _) _⟩
  revert HB
  generalize (w.alloc (.cells #[.int .i64 k, .string tx, .int .i64 n, .int .i64 to1, .slice aa al ac, .int .i64 ot, .int .i64 oe] 27)) = W0
  intro HB
  have c2 := HB.out.1.cell (i := 2) rfl
  have c4 := HB.out.1.cell (i := 4) rfl
  cases bn with
  | true =>
    have HG : Hid (¬ (Pg.inB n 0 1000000000000 = false ∧ n ≠ 9223372036854775807)) := Lib.hid (by rw [HI.out]; simp)
    go_upto_region 3 with (first | (go_at_call 16; refine (pg_ini n 0 1000000000000 _ HI.out _).mono ?_; rintro e W2 ⟨rfl, rfl⟩) | fail)
    by_cases h8 : 8 < al
    · have i8 : (8 : Int) < (al : Int) := by omega
      obtain rfl : 4 = e := by rw [← HE.out]; unfold Pg.wExp; dsimp only; rw [if_neg HG.out, if_pos (by rw [HL.out.1]; exact h8)]
      go_wp2_with fail
      go_ret
      exact ⟨rfl, HB.out.2⟩
    · have i8 : ¬ (8 : Int) < (al : Int) := by omega
      have HE2 : Hid ((if Pg.wArms N ar ≠ 0 then Pg.wArms N ar else if Pg.inB ot (-1) N = true ∧ Pg.inB oe (-1) N = true then 0 else 13) = e) := Lib.hid (by
        have h := HE.out
        unfold Pg.wExp at h
        dsimp only at h
        rw [if_neg HG.out, if_neg (by rw [HL.out.1]; exact h8)] at h
        exact h)
      clear HE HG
      go_upto_region 6 with fail
      clear c2 c4
      go_loopw [6, 7, 24] (fun _ _ i wr => ∃ j : Nat, i = .int .i64 j ∧ j ≤ al ∧ Hid (∀ q p', q < j → ar[q]? = some p' → Pg.wArm N p' = 0) ∧ Hid (Blk wr w.heap.size [.int .i64 k, .string tx, .int .i64 n, .int .i64 to1, .slice aa al ac, .int .i64 ot, .int .i64 oe] 27 ∧ Below w.heap.size w wr)) (fun _ _ i _ => al - (intOf i).toNat)
      case atStart => exact ⟨0, rfl, by omega, Lib.hid (fun q p' hq => by omega), HB⟩
      case round =>
        clear HB
        obtain ⟨j, rfl, hj, HK, HB⟩ := hrel
        have i0 : (0 : Int) ≤ (j : Int) := by omega
        by_cases hjl : j < al
        · have i1 : (j : Int) < (al : Int) := by omega
          have w1 : IntKind.i64.wrap ((j : Int) + 1) = (j : Int) + 1 := IntWalk.i64_in _ (by omega)
          obtain ⟨s, t, es⟩ : ∃ s t, ar[j]? = some (s, t) := ⟨_, _, List.getElem?_eq_getElem (by rw [HL.out.1]; exact hjl)⟩
          obtain ⟨hs, g, o, rfl, hg, d1, d2⟩ := (HL.out.2.below HB.out.2) j s t es
          obtain ⟨q, hq⟩ : ∃ q, Pg.wArm N (s, t) = q := ⟨_, rfl⟩
          have HQ := Lib.hid (And.intro hq es)
          clear hq es
          go_upto_region 8 with fail
          have HC : Hid ((Blk (wr.alloc (.cells #[.string s, .int .i64 t] 38)) w.heap.size [.int .i64 k, .string tx, .int .i64 n, .int .i64 to1, .slice (some ⟨g, o, none⟩) al ac, .int .i64 ot, .int .i64 oe] 27 ∧ Below w.heap.size w (wr.alloc (.cells #[.string s, .int .i64 t] 38))) ∧ Blk (wr.alloc (.cells #[.string s, .int .i64 t] 38)) wr.heap.size [.string s, .int .i64 t] 38) := Lib.hid ⟨⟨HB.out.1.alloc _, HB.out.2.alloc HB.out.2.size _⟩, Blk.newA _ _ _⟩
          clear d1 d2 HB
          revert HC
          generalize (wr.alloc (.cells #[.string s, .int .i64 t] 38)) = V1
          generalize wr.heap.size = Y
          intro HC
          have d1 := HC.out.2.cell (i := 0) rfl
          have d2 := HC.out.2.cell (i := 1) rfl
          by_cases q0 : q = 0
          · subst q0
            have HK2 : Hid (∀ q p', q < j + 1 → ar[q]? = some p' → Pg.wArm N p' = 0) := Lib.hid (fun q p' hq hp => by
              by_cases e : q = j
              · rw [e, HQ.out.2] at hp; rw [← Option.some.inj hp]; exact HQ.out.1
              · exact HK.out q p' (by omega) hp)
            go_wp2_with (first
              | (go_at_call 30; refine (pg_arm s t N hs _ HQ.out.1 _).mono ?_; rintro e W1 ⟨rfl, hb1⟩; have HD := Lib.hid (And.intro (HC.out.1.1.below hb1 HC.out.1.1.lt) (HC.out.1.2.trans (hb1.mono HC.out.1.2.size))); clear hb1 d1 d2)
              | fail)
            go_roundw
            case rel => exact ⟨j + 1, by go_num, by omega, HK2, HD⟩
            case measure => simp [intOf]; omega
          · have q1 : ¬ (q : Int) = 0 := by omega
            obtain rfl : q = e := by
              have h := HE2.out
              have h1 := wArms_at N (s, t) ar j HK.out HQ.out.2 (by rw [HQ.out.1]; exact q0)
              rw [h1, HQ.out.1, if_pos q0] at h
              exact h
            go_wp2_with (first
              | (go_at_call 30; refine (pg_arm s t N hs _ HQ.out.1 _).mono ?_; rintro e W1 ⟨rfl, hb1⟩; have HD := Lib.hid (And.intro (HC.out.1.1.below hb1 HC.out.1.1.lt) (HC.out.1.2.trans (hb1.mono HC.out.1.2.size))); clear hb1 d1 d2)
              | fail)
            go_ret
            exact ⟨rfl, HD.out.2⟩
        · have i1 : ¬ (j : Int) < (al : Int) := by omega
          obtain ⟨b1, hb1⟩ : ∃ b, Pg.inB ot (-1) N = b := ⟨_, rfl⟩
          obtain ⟨b2, hb2⟩ : ∃ b, Pg.inB oe (-1) N = b := ⟨_, rfl⟩
          have h := HE2.out
          rw [wArms_all N ar (fun q p' hp => HK.out q p' (by
            have : q < ar.length := (List.getElem?_eq_some_iff.1 hp).1
            rw [HL.out.1] at this
            omega) hp), if_neg (fun h => h rfl), hb1, hb2] at h
          have HJ := Lib.hid (And.intro hb1 hb2)
          clear hb1 hb2 HE2
          have c5 := HB.out.1.cell (i := 5) rfl
          have c6 := HB.out.1.cell (i := 6) rfl
          cases b1 with
          | true =>
            cases b2 with
            | true =>
              obtain rfl : 0 = e := by simpa using h
              clear h
              have HJ1 := Lib.hid HJ.out.1
              go_wp2_with (first
                | (have hz := HJ1.out; clear hz; go_at_call 17; refine (pg_inn ot (-1) N _ HJ1.out _).mono ?_; rintro e W2 ⟨rfl, rfl⟩; clear HJ1)
                | (go_at_call 17; refine (pg_inn oe (-1) N _ HJ.out.2 _).mono ?_; rintro e W2 ⟨rfl, rfl⟩)
                | fail)
              go_ret
              exact ⟨rfl, HB.out.2⟩
            | false =>
              obtain rfl : 13 = e := by simpa using h
              clear h
              have HJ1 := Lib.hid HJ.out.1
              go_wp2_with (first
                | (have hz := HJ1.out; clear hz; go_at_call 17; refine (pg_inn ot (-1) N _ HJ1.out _).mono ?_; rintro e W2 ⟨rfl, rfl⟩; clear HJ1)
                | (go_at_call 17; refine (pg_inn oe (-1) N _ HJ.out.2 _).mono ?_; rintro e W2 ⟨rfl, rfl⟩)
                | fail)
              go_ret
              exact ⟨rfl, HB.out.2⟩
          | false =>
            obtain rfl : 13 = e := by simpa using h
            clear h
            have HJ1 := Lib.hid HJ.out.1
            go_wp2_with (first
              | (have hz := HJ1.out; clear hz; go_at_call 17; refine (pg_inn ot (-1) N _ HJ1.out _).mono ?_; rintro e W2 ⟨rfl, rfl⟩; clear HJ1)
              | (go_at_call 17; refine (pg_inn oe (-1) N _ HJ.out.2 _).mono ?_; rintro e W2 ⟨rfl, rfl⟩)
              | fail)
            go_ret
            exact ⟨rfl, HB.out.2⟩
  | false =>
    by_cases hnv : n = 9223372036854775807
    · have HG : Hid (¬ (Pg.inB n 0 1000000000000 = false ∧ n ≠ 9223372036854775807)) := Lib.hid (fun h => h.2 hnv)
      subst hnv
      go_upto_region 3 with (first | (go_at_call 16; refine (pg_ini _ 0 1000000000000 _ HI.out _).mono ?_; rintro e W2 ⟨rfl, rfl⟩) | fail)
      by_cases h8 : 8 < al
      · have i8 : (8 : Int) < (al : Int) := by omega
        obtain rfl : 4 = e := by rw [← HE.out]; unfold Pg.wExp; dsimp only; rw [if_neg HG.out, if_pos (by rw [HL.out.1]; exact h8)]
        go_wp2_with fail
        go_ret
        exact ⟨rfl, HB.out.2⟩
      · have i8 : ¬ (8 : Int) < (al : Int) := by omega
        have HE2 : Hid ((if Pg.wArms N ar ≠ 0 then Pg.wArms N ar else if Pg.inB ot (-1) N = true ∧ Pg.inB oe (-1) N = true then 0 else 13) = e) := Lib.hid (by
          have h := HE.out
          unfold Pg.wExp at h
          dsimp only at h
          rw [if_neg HG.out, if_neg (by rw [HL.out.1]; exact h8)] at h
          exact h)
        clear HE HG
        go_upto_region 6 with fail
        clear c2 c4
        go_loopw [6, 7, 24] (fun _ _ i wr => ∃ j : Nat, i = .int .i64 j ∧ j ≤ al ∧ Hid (∀ q p', q < j → ar[q]? = some p' → Pg.wArm N p' = 0) ∧ Hid (Blk wr w.heap.size [.int .i64 k, .string tx, .int .i64 9223372036854775807, .int .i64 to1, .slice aa al ac, .int .i64 ot, .int .i64 oe] 27 ∧ Below w.heap.size w wr)) (fun _ _ i _ => al - (intOf i).toNat)
        case atStart => exact ⟨0, rfl, by omega, Lib.hid (fun q p' hq => by omega), HB⟩
        case round =>
          clear HB
          obtain ⟨j, rfl, hj, HK, HB⟩ := hrel
          have i0 : (0 : Int) ≤ (j : Int) := by omega
          by_cases hjl : j < al
          · have i1 : (j : Int) < (al : Int) := by omega
            have w1 : IntKind.i64.wrap ((j : Int) + 1) = (j : Int) + 1 := IntWalk.i64_in _ (by omega)
            obtain ⟨s, t, es⟩ : ∃ s t, ar[j]? = some (s, t) := ⟨_, _, List.getElem?_eq_getElem (by rw [HL.out.1]; exact hjl)⟩
            obtain ⟨hs, g, o, rfl, hg, d1, d2⟩ := (HL.out.2.below HB.out.2) j s t es
            obtain ⟨q, hq⟩ : ∃ q, Pg.wArm N (s, t) = q := ⟨_, rfl⟩
            have HQ := Lib.hid (And.intro hq es)
            clear hq es
            go_upto_region 8 with fail
            have HC : Hid ((Blk (wr.alloc (.cells #[.string s, .int .i64 t] 38)) w.heap.size [.int .i64 k, .string tx, .int .i64 9223372036854775807, .int .i64 to1, .slice (some ⟨g, o, none⟩) al ac, .int .i64 ot, .int .i64 oe] 27 ∧ Below w.heap.size w (wr.alloc (.cells #[.string s, .int .i64 t] 38))) ∧ Blk (wr.alloc (.cells #[.string s, .int .i64 t] 38)) wr.heap.size [.string s, .int .i64 t] 38) := Lib.hid ⟨⟨HB.out.1.alloc _, HB.out.2.alloc HB.out.2.size _⟩, Blk.newA _ _ _⟩
            clear d1 d2 HB
            revert HC
            generalize (wr.alloc (.cells #[.string s, .int .i64 t] 38)) = V1
            generalize wr.heap.size = Y
            intro HC
            have d1 := HC.out.2.cell (i := 0) rfl
            have d2 := HC.out.2.cell (i := 1) rfl
            by_cases q0 : q = 0
            · subst q0
              have HK2 : Hid (∀ q p', q < j + 1 → ar[q]? = some p' → Pg.wArm N p' = 0) := Lib.hid (fun q p' hq hp => by
                by_cases e : q = j
                · rw [e, HQ.out.2] at hp; rw [← Option.some.inj hp]; exact HQ.out.1
                · exact HK.out q p' (by omega) hp)
              go_wp2_with (first
                | (go_at_call 30; refine (pg_arm s t N hs _ HQ.out.1 _).mono ?_; rintro e W1 ⟨rfl, hb1⟩; have HD := Lib.hid (And.intro (HC.out.1.1.below hb1 HC.out.1.1.lt) (HC.out.1.2.trans (hb1.mono HC.out.1.2.size))); clear hb1 d1 d2)
                | fail)
              go_roundw
              case rel => exact ⟨j + 1, by go_num, by omega, HK2, HD⟩
              case measure => simp [intOf]; omega
            · have q1 : ¬ (q : Int) = 0 := by omega
              obtain rfl : q = e := by
                have h := HE2.out
                have h1 := wArms_at N (s, t) ar j HK.out HQ.out.2 (by rw [HQ.out.1]; exact q0)
                rw [h1, HQ.out.1, if_pos q0] at h
                exact h
              go_wp2_with (first
                | (go_at_call 30; refine (pg_arm s t N hs _ HQ.out.1 _).mono ?_; rintro e W1 ⟨rfl, hb1⟩; have HD := Lib.hid (And.intro (HC.out.1.1.below hb1 HC.out.1.1.lt) (HC.out.1.2.trans (hb1.mono HC.out.1.2.size))); clear hb1 d1 d2)
                | fail)
              go_ret
              exact ⟨rfl, HD.out.2⟩
          · have i1 : ¬ (j : Int) < (al : Int) := by omega
            obtain ⟨b1, hb1⟩ : ∃ b, Pg.inB ot (-1) N = b := ⟨_, rfl⟩
            obtain ⟨b2, hb2⟩ : ∃ b, Pg.inB oe (-1) N = b := ⟨_, rfl⟩
            have h := HE2.out
            rw [wArms_all N ar (fun q p' hp => HK.out q p' (by
              have : q < ar.length := (List.getElem?_eq_some_iff.1 hp).1
              rw [HL.out.1] at this
              omega) hp), if_neg (fun h => h rfl), hb1, hb2] at h
            have HJ := Lib.hid (And.intro hb1 hb2)
            clear hb1 hb2 HE2
            have c5 := HB.out.1.cell (i := 5) rfl
            have c6 := HB.out.1.cell (i := 6) rfl
            cases b1 with
            | true =>
              cases b2 with
              | true =>
                obtain rfl : 0 = e := by simpa using h
                clear h
                have HJ1 := Lib.hid HJ.out.1
                go_wp2_with (first
                  | (have hz := HJ1.out; clear hz; go_at_call 17; refine (pg_inn ot (-1) N _ HJ1.out _).mono ?_; rintro e W2 ⟨rfl, rfl⟩; clear HJ1)
                  | (go_at_call 17; refine (pg_inn oe (-1) N _ HJ.out.2 _).mono ?_; rintro e W2 ⟨rfl, rfl⟩)
                  | fail)
                go_ret
                exact ⟨rfl, HB.out.2⟩
              | false =>
                obtain rfl : 13 = e := by simpa using h
                clear h
                have HJ1 := Lib.hid HJ.out.1
                go_wp2_with (first
                  | (have hz := HJ1.out; clear hz; go_at_call 17; refine (pg_inn ot (-1) N _ HJ1.out _).mono ?_; rintro e W2 ⟨rfl, rfl⟩; clear HJ1)
                  | (go_at_call 17; refine (pg_inn oe (-1) N _ HJ.out.2 _).mono ?_; rintro e W2 ⟨rfl, rfl⟩)
                  | fail)
                go_ret
                exact ⟨rfl, HB.out.2⟩
            | false =>
              obtain rfl : 13 = e := by simpa using h
              clear h
              have HJ1 := Lib.hid HJ.out.1
              go_wp2_with (first
                | (have hz := HJ1.out; clear hz; go_at_call 17; refine (pg_inn ot (-1) N _ HJ1.out _).mono ?_; rintro e W2 ⟨rfl, rfl⟩; clear HJ1)
                | (go_at_call 17; refine (pg_inn oe (-1) N _ HJ.out.2 _).mono ?_; rintro e W2 ⟨rfl, rfl⟩)
                | fail)
              go_ret
              exact ⟨rfl, HB.out.2⟩
    · obtain rfl : 12 = e := by rw [← HE.out]; unfold Pg.wExp; dsimp only; rw [if_pos ⟨HI.out, hnv⟩]
      go_wp2_with (first | (go_at_call 16; refine (pg_ini n 0 1000000000000 _ HI.out _).mono ?_; rintro e W2 ⟨rfl, rfl⟩) | fail)
      go_ret
      exact ⟨rfl, HB.out.2⟩
set_option maxRecDepth 20000 in
set_option maxHeartbeats 4000000 in
theorem pg_wop (k : Int) (tx : ByteArray) (n to1 : Int) (aa : Option Addr) (al ac : Nat) (ot oe : Int) (ar : List (ByteArray × Int)) (hl : ar.length = al) (hal : al ≤ maxLen) (htx : tx.size ≤ maxLen) (N : Nat) (e : Nat) (he : Pg.wOp N ⟨k, tx, n, to1, ar, ot, oe⟩ = e) (w : World) (HA : AL w aa ar) : Calls Try.prog 18 #[.agg #[.int .i64 k, .string tx, .int .i64 n, .int .i64 to1, .slice aa al ac, .int .i64 ot, .int .i64 oe], .int .i64 N] w fun r w' => r = .returned (.int .i64 e) ∧ Below w.heap.size w w' := by
  obtain ⟨s, hw⟩ : ∃ s, Pg.word k = s := ⟨_, rfl⟩
  by_cases hz : s.size = 0
  · obtain rfl : 11 = e := by rw [← he]; unfold Pg.wOp; dsimp only; rw [if_pos (by rw [hw]; exact hz)]
    have ht : s = ⟨#[]⟩ := by
      have : s.data.size = 0 := hz
      cases s with | mk d => simp at this; rw [this]
    subst ht
    have HW := Lib.hid hw
    clear he hl HA hw hz
    go_enter Try.func18, Try.ntmps18
    go_wp2_with (first | (go_at_call 12; refine (pg_word _ _ HW.out _).mono ?_; rintro e W2 ⟨rfl, rfl⟩) | fail)
    go_ret
    exact ⟨rfl, (Below.refl _ _).alloc (Nat.le_refl _) _⟩
  · have hf := lxn_full (G := s) (by omega)
    by_cases h1 : k = 1
    · subst h1
      have HL := Lib.hid (And.intro hl HA)
      obtain ⟨b, hb⟩ : ∃ b, Pg.same ⟨1, tx, n, to1, ar, ot, oe⟩ (Pg.own ⟨1, tx, n, to1, ar, ot, oe⟩) = b := ⟨_, rfl⟩
      unfold Pg.wOp at he
      dsimp only at he
      rw [if_neg (by rw [hw]; omega), hb] at he
      have HS : Hid (Pg.same ⟨1, tx, n, to1, ar, ot, oe⟩ ⟨1, tx, 0, 0, [], 0, 0⟩ = b) := Lib.hid (by rw [← hb]; rfl)
      simp only [if_true] at he
      have HW := Lib.hid hw
      clear hb hw hl HA
      go_enter Try.func18, Try.ntmps18
      go_upto_region 1 with fail
      have HB : Hid (Blk (w.alloc (.cells #[.int .i64 1, .string tx, .int .i64 n, .int .i64 to1, .slice aa al ac, .int .i64 ot, .int .i64 oe] 27)) w.heap.size [.int .i64 1, .string tx, .int .i64 n, .int .i64 to1, .slice aa al ac, .int .i64 ot, .int .i64 oe] 27 ∧ Below w.heap.size w (w.alloc (.cells #[.int .i64 1, .string tx, .int .i64 n, .int .i64 to1, .slice aa al ac, .int .i64 ot, .int .i64 oe] 27))) := Lib.hid ⟨Blk.newA _ _ _, (Below.refl _ _).alloc (Nat.le_refl _) _⟩
      revert HB
      generalize (w.alloc (.cells #[.int .i64 1, .string tx, .int .i64 n, .int .i64 to1, .slice aa al ac, .int .i64 ot, .int .i64 oe] 27)) = W0
      intro HB
      have c0 := HB.out.1.cell (i := 0) rfl
      go_upto_region 3 with (first | (go_at_call 12; refine (pg_word _ s HW.out _).mono ?_; rintro e W2 ⟨rfl, rfl⟩) | fail)
      clear c0
      cases b with
      | false =>
        obtain rfl : 2 = e := by simpa using he
        clear he
        refine wp_region_class (fun w' => Blk w' w.heap.size [.int .i64 1, .string tx, .int .i64 n, .int .i64 to1, .slice aa al ac, .int .i64 ot, .int .i64 oe] 27 ∧ Below w.heap.size w w') (by kernel_rfl) (by kernel_rfl) ⟨HB.out.1.drew, HB.out.2.drew⟩ ?_
        repeat (first
            | go_big_quiet_skip
            | (go_big_quiet_want
               unfold Oper.quiet
               apply Exists.intro
               refine ⟨fun wq hwq => ?_, ?_⟩
               · (have c0 := hwq.1.cell (i := 0) rfl
                  have c1 := hwq.1.cell (i := 1) rfl
                  have c2 := hwq.1.cell (i := 2) rfl
                  have c3 := hwq.1.cell (i := 3) rfl
                  have c4 := hwq.1.cell (i := 4) rfl
                  have c5 := hwq.1.cell (i := 5) rfl
                  have c6 := hwq.1.cell (i := 6) rfl
                  unfold Oper.quietAt
                  go_simp
                  first
                    | exact ⟨rfl, hwq⟩
                    | exact rfl
                    | (go_at_call 26; refine (pg_own1 1 tx n to1 aa al ac ot oe rfl _).mono ?_; rintro e w3 ⟨he, hb⟩; exact ⟨he, hwq.1.below hb hwq.1.lt, hwq.2.trans (hb.mono hwq.2.size)⟩)
                    | (go_at_call 24; refine (pg_sameop 1 1 tx tx n 0 to1 0 aa none al 0 ac 0 ot 0 oe 0 ar [] HL.out.1 rfl hal _ HS.out _ (HL.out.2.below hwq.2) (AL.nil _ _)).mono ?_; rintro e w3 ⟨he, hb⟩; exact ⟨he, hwq.1.below hb hwq.1.lt, hwq.2.trans (hb.mono hwq.2.size)⟩))
               simp only [Act.put, List.setIfInBounds_toArray, List.set_cons_zero, List.set_cons_succ]
               go_big_quiet_on))
        refine wpQuiet_nil ?_
        intro w4 hw4
        have HX := Lib.hid hw4
        clear hw4 HB
        go_wp2_with fail
        go_ret
        exact ⟨rfl, HX.out.2⟩
      | true =>
        simp only [Bool.true_eq_false, if_false] at he
        have HE := Lib.hid he
        clear he
        refine wp_region_class (fun w' => Blk w' w.heap.size [.int .i64 1, .string tx, .int .i64 n, .int .i64 to1, .slice aa al ac, .int .i64 ot, .int .i64 oe] 27 ∧ Below w.heap.size w w') (by kernel_rfl) (by kernel_rfl) ⟨HB.out.1.drew, HB.out.2.drew⟩ ?_
        repeat (first
            | go_big_quiet_skip
            | (go_big_quiet_want
               unfold Oper.quiet
               apply Exists.intro
               refine ⟨fun wq hwq => ?_, ?_⟩
               · (have c0 := hwq.1.cell (i := 0) rfl
                  have c1 := hwq.1.cell (i := 1) rfl
                  have c2 := hwq.1.cell (i := 2) rfl
                  have c3 := hwq.1.cell (i := 3) rfl
                  have c4 := hwq.1.cell (i := 4) rfl
                  have c5 := hwq.1.cell (i := 5) rfl
                  have c6 := hwq.1.cell (i := 6) rfl
                  unfold Oper.quietAt
                  go_simp
                  first
                    | exact ⟨rfl, hwq⟩
                    | exact rfl
                    | (go_at_call 26; refine (pg_own1 1 tx n to1 aa al ac ot oe rfl _).mono ?_; rintro e w3 ⟨he, hb⟩; exact ⟨he, hwq.1.below hb hwq.1.lt, hwq.2.trans (hb.mono hwq.2.size)⟩)
                    | (go_at_call 24; refine (pg_sameop 1 1 tx tx n 0 to1 0 aa none al 0 ac 0 ot 0 oe 0 ar [] HL.out.1 rfl hal _ HS.out _ (HL.out.2.below hwq.2) (AL.nil _ _)).mono ?_; rintro e w3 ⟨he, hb⟩; exact ⟨he, hwq.1.below hb hwq.1.lt, hwq.2.trans (hb.mono hwq.2.size)⟩))
               simp only [Act.put, List.setIfInBounds_toArray, List.set_cons_zero, List.set_cons_succ]
               go_big_quiet_on))
        refine wpQuiet_nil ?_
        intro w4 hw4
        have HX := Lib.hid hw4
        clear hw4 HB
        have c0 := HX.out.1.cell (i := 0) rfl
        have c1 := HX.out.1.cell (i := 1) rfl
        have c2 := HX.out.1.cell (i := 2) rfl
        have c3 := HX.out.1.cell (i := 3) rfl
        have c4 := HX.out.1.cell (i := 4) rfl
        have c5 := HX.out.1.cell (i := 5) rfl
        have c6 := HX.out.1.cell (i := 6) rfl
        go_wp2_with (first | (go_at_call 27; refine (pg_send 1 tx n to1 aa al ac ot oe ar htx e HE.out _).mono ?_; rintro r W5 ⟨rfl, hb1⟩; have HY := Lib.hid (HX.out.2.trans (hb1.mono HX.out.2.size)); clear hb1) | fail)
        go_ret
        exact ⟨rfl, HY.out⟩
    · by_cases h2 : k = 2
      · subst h2
        clear h1
        have HL := Lib.hid (And.intro hl HA)
        obtain ⟨b, hb⟩ : ∃ b, Pg.same ⟨2, tx, n, to1, ar, ot, oe⟩ (Pg.own ⟨2, tx, n, to1, ar, ot, oe⟩) = b := ⟨_, rfl⟩
        unfold Pg.wOp at he
        dsimp only at he
        rw [if_neg (by rw [hw]; omega), hb] at he
        have HS : Hid (Pg.same ⟨2, tx, n, to1, ar, ot, oe⟩ ⟨2, ⟨#[]⟩, n, 0, ar, ot, oe⟩ = b) := Lib.hid (by rw [← hb]; rfl)
        simp only [if_true, if_neg (show ¬ (2 : Int) = 1 by decide)] at he
        have HW := Lib.hid hw
        clear hb hw hl HA
        go_enter Try.func18, Try.ntmps18
        go_upto_region 1 with fail
        have HB : Hid (Blk (w.alloc (.cells #[.int .i64 2, .string tx, .int .i64 n, .int .i64 to1, .slice aa al ac, .int .i64 ot, .int .i64 oe] 27)) w.heap.size [.int .i64 2, .string tx, .int .i64 n, .int .i64 to1, .slice aa al ac, .int .i64 ot, .int .i64 oe] 27 ∧ Below w.heap.size w (w.alloc (.cells #[.int .i64 2, .string tx, .int .i64 n, .int .i64 to1, .slice aa al ac, .int .i64 ot, .int .i64 oe] 27))) := Lib.hid ⟨Blk.newA _ _ _, (Below.refl _ _).alloc (Nat.le_refl _) _⟩
        revert HB
        generalize (w.alloc (.cells #[.int .i64 2, .string tx, .int .i64 n, .int .i64 to1, .slice aa al ac, .int .i64 ot, .int .i64 oe] 27)) = W0
        intro HB
        have c0 := HB.out.1.cell (i := 0) rfl
        go_upto_region 3 with (first | (go_at_call 12; refine (pg_word _ s HW.out _).mono ?_; rintro e W2 ⟨rfl, rfl⟩) | fail)
        clear c0
        cases b with
        | false =>
          obtain rfl : 2 = e := by simpa using he
          clear he
          refine wp_region_class (fun w' => Blk w' w.heap.size [.int .i64 2, .string tx, .int .i64 n, .int .i64 to1, .slice aa al ac, .int .i64 ot, .int .i64 oe] 27 ∧ Below w.heap.size w w') (by kernel_rfl) (by kernel_rfl) ⟨HB.out.1.drew, HB.out.2.drew⟩ ?_
          repeat (first
              | go_big_quiet_skip
              | (go_big_quiet_want
                 unfold Oper.quiet
                 apply Exists.intro
                 refine ⟨fun wq hwq => ?_, ?_⟩
                 · (have c0 := hwq.1.cell (i := 0) rfl
                    have c1 := hwq.1.cell (i := 1) rfl
                    have c2 := hwq.1.cell (i := 2) rfl
                    have c3 := hwq.1.cell (i := 3) rfl
                    have c4 := hwq.1.cell (i := 4) rfl
                    have c5 := hwq.1.cell (i := 5) rfl
                    have c6 := hwq.1.cell (i := 6) rfl
                    unfold Oper.quietAt
                    go_simp
                    first
                      | exact ⟨rfl, hwq⟩
                      | exact rfl
                      | (go_at_call 26; refine (pg_own2 2 tx n to1 aa al ac ot oe rfl _).mono ?_; rintro e w3 ⟨he, hb⟩; exact ⟨he, hwq.1.below hb hwq.1.lt, hwq.2.trans (hb.mono hwq.2.size)⟩)
                      | (go_at_call 24; refine (pg_sameop 2 2 tx ⟨#[]⟩ n n to1 0 aa aa al al ac ac ot ot oe oe ar ar HL.out.1 HL.out.1 hal _ HS.out _ (HL.out.2.below hwq.2) (HL.out.2.below hwq.2)).mono ?_; rintro e w3 ⟨he, hb⟩; exact ⟨he, hwq.1.below hb hwq.1.lt, hwq.2.trans (hb.mono hwq.2.size)⟩))
                 simp only [Act.put, List.setIfInBounds_toArray, List.set_cons_zero, List.set_cons_succ]
                 go_big_quiet_on))
          refine wpQuiet_nil ?_
          intro w4 hw4
          have HX := Lib.hid hw4
          clear hw4 HB
          go_wp2_with fail
          go_ret
          exact ⟨rfl, HX.out.2⟩
        | true =>
          simp only [Bool.true_eq_false, if_false] at he
          have HE := Lib.hid he
          clear he
          refine wp_region_class (fun w' => Blk w' w.heap.size [.int .i64 2, .string tx, .int .i64 n, .int .i64 to1, .slice aa al ac, .int .i64 ot, .int .i64 oe] 27 ∧ Below w.heap.size w w') (by kernel_rfl) (by kernel_rfl) ⟨HB.out.1.drew, HB.out.2.drew⟩ ?_
          repeat (first
              | go_big_quiet_skip
              | (go_big_quiet_want
                 unfold Oper.quiet
                 apply Exists.intro
                 refine ⟨fun wq hwq => ?_, ?_⟩
                 · (have c0 := hwq.1.cell (i := 0) rfl
                    have c1 := hwq.1.cell (i := 1) rfl
                    have c2 := hwq.1.cell (i := 2) rfl
                    have c3 := hwq.1.cell (i := 3) rfl
                    have c4 := hwq.1.cell (i := 4) rfl
                    have c5 := hwq.1.cell (i := 5) rfl
                    have c6 := hwq.1.cell (i := 6) rfl
                    unfold Oper.quietAt
                    go_simp
                    first
                      | exact ⟨rfl, hwq⟩
                      | exact rfl
                      | (go_at_call 26; refine (pg_own2 2 tx n to1 aa al ac ot oe rfl _).mono ?_; rintro e w3 ⟨he, hb⟩; exact ⟨he, hwq.1.below hb hwq.1.lt, hwq.2.trans (hb.mono hwq.2.size)⟩)
                      | (go_at_call 24; refine (pg_sameop 2 2 tx ⟨#[]⟩ n n to1 0 aa aa al al ac ac ot ot oe oe ar ar HL.out.1 HL.out.1 hal _ HS.out _ (HL.out.2.below hwq.2) (HL.out.2.below hwq.2)).mono ?_; rintro e w3 ⟨he, hb⟩; exact ⟨he, hwq.1.below hb hwq.1.lt, hwq.2.trans (hb.mono hwq.2.size)⟩))
                 simp only [Act.put, List.setIfInBounds_toArray, List.set_cons_zero, List.set_cons_succ]
                 go_big_quiet_on))
          refine wpQuiet_nil ?_
          intro w4 hw4
          have HX := Lib.hid hw4
          clear hw4 HB
          have c0 := HX.out.1.cell (i := 0) rfl
          have c1 := HX.out.1.cell (i := 1) rfl
          have c2 := HX.out.1.cell (i := 2) rfl
          have c3 := HX.out.1.cell (i := 3) rfl
          have c4 := HX.out.1.cell (i := 4) rfl
          have c5 := HX.out.1.cell (i := 5) rfl
          have c6 := HX.out.1.cell (i := 6) rfl
          go_wp2_with (first | (go_at_call 28; refine (pg_expect 2 tx n to1 aa al ac ot oe ar HL.out.1 hal N e HE.out _ (HL.out.2.below HX.out.2)).mono ?_; rintro r W5 ⟨rfl, hb1⟩; have HY := Lib.hid (HX.out.2.trans (hb1.mono HX.out.2.size)); clear hb1) | fail)
          go_ret
          exact ⟨rfl, HY.out⟩
      · by_cases h3 : k = 3
        · subst h3
          clear h1 h2
          have HL := Lib.hid (And.intro hl HA)
          obtain ⟨b, hb⟩ : ∃ b, Pg.same ⟨3, tx, n, to1, ar, ot, oe⟩ (Pg.own ⟨3, tx, n, to1, ar, ot, oe⟩) = b := ⟨_, rfl⟩
          unfold Pg.wOp at he
          dsimp only at he
          rw [if_neg (by rw [hw]; omega), hb] at he
          have HS : Hid (Pg.same ⟨3, tx, n, to1, ar, ot, oe⟩ ⟨3, ⟨#[]⟩, 0, to1, [], 0, 0⟩ = b) := Lib.hid (by rw [← hb]; rfl)
          simp only [if_true, if_neg (show ¬ (3 : Int) = 1 by decide), if_neg (show ¬ (3 : Int) = 2 by decide)] at he
          have HW := Lib.hid hw
          clear hb hw hl HA
          go_enter Try.func18, Try.ntmps18
          go_upto_region 1 with fail
          have HB : Hid (Blk (w.alloc (.cells #[.int .i64 3, .string tx, .int .i64 n, .int .i64 to1, .slice aa al ac, .int .i64 ot, .int .i64 oe] 27)) w.heap.size [.int .i64 3, .string tx, .int .i64 n, .int .i64 to1, .slice aa al ac, .int .i64 ot, .int .i64 oe] 27 ∧ Below w.heap.size w (w.alloc (.cells #[.int .i64 3, .string tx, .int .i64 n, .int .i64 to1, .slice aa al ac, .int .i64 ot, .int .i64 oe] 27))) := Lib.hid ⟨Blk.newA _ _ _, (Below.refl _ _).alloc (Nat.le_refl _) _⟩
          revert HB
          generalize (w.alloc (.cells #[.int .i64 3, .string tx, .int .i64 n, .int .i64 to1, .slice aa al ac, .int .i64 ot, .int .i64 oe] 27)) = W0
          intro HB
          have c0 := HB.out.1.cell (i := 0) rfl
          go_upto_region 3 with (first | (go_at_call 12; refine (pg_word _ s HW.out _).mono ?_; rintro e W2 ⟨rfl, rfl⟩) | fail)
          clear c0
          cases b with
          | false =>
            obtain rfl : 2 = e := by simpa using he
            clear he
            refine wp_region_class (fun w' => Blk w' w.heap.size [.int .i64 3, .string tx, .int .i64 n, .int .i64 to1, .slice aa al ac, .int .i64 ot, .int .i64 oe] 27 ∧ Below w.heap.size w w') (by kernel_rfl) (by kernel_rfl) ⟨HB.out.1.drew, HB.out.2.drew⟩ ?_
            repeat (first
                | go_big_quiet_skip
                | (go_big_quiet_want
                   unfold Oper.quiet
                   apply Exists.intro
                   refine ⟨fun wq hwq => ?_, ?_⟩
                   · (have c0 := hwq.1.cell (i := 0) rfl
                      have c1 := hwq.1.cell (i := 1) rfl
                      have c2 := hwq.1.cell (i := 2) rfl
                      have c3 := hwq.1.cell (i := 3) rfl
                      have c4 := hwq.1.cell (i := 4) rfl
                      have c5 := hwq.1.cell (i := 5) rfl
                      have c6 := hwq.1.cell (i := 6) rfl
                      unfold Oper.quietAt
                      go_simp
                      first
                        | exact ⟨rfl, hwq⟩
                        | exact rfl
                        | (go_at_call 26; refine (pg_own3 3 tx n to1 aa al ac ot oe rfl _).mono ?_; rintro e w3 ⟨he, hb⟩; exact ⟨he, hwq.1.below hb hwq.1.lt, hwq.2.trans (hb.mono hwq.2.size)⟩)
                        | (go_at_call 24; refine (pg_sameop 3 3 tx ⟨#[]⟩ n 0 to1 to1 aa none al 0 ac 0 ot 0 oe 0 ar [] HL.out.1 rfl hal _ HS.out _ (HL.out.2.below hwq.2) (AL.nil _ _)).mono ?_; rintro e w3 ⟨he, hb⟩; exact ⟨he, hwq.1.below hb hwq.1.lt, hwq.2.trans (hb.mono hwq.2.size)⟩))
                   simp only [Act.put, List.setIfInBounds_toArray, List.set_cons_zero, List.set_cons_succ]
                   go_big_quiet_on))
            refine wpQuiet_nil ?_
            intro w4 hw4
            have HX := Lib.hid hw4
            clear hw4 HB
            go_wp2_with fail
            go_ret
            exact ⟨rfl, HX.out.2⟩
          | true =>
            simp only [Bool.true_eq_false, if_false] at he
            obtain ⟨bt, hbt⟩ : ∃ b, Pg.inB to1 0 N = b := ⟨_, rfl⟩
            rw [hbt] at he
            have HT := Lib.hid hbt
            clear hbt
            refine wp_region_class (fun w' => Blk w' w.heap.size [.int .i64 3, .string tx, .int .i64 n, .int .i64 to1, .slice aa al ac, .int .i64 ot, .int .i64 oe] 27 ∧ Below w.heap.size w w') (by kernel_rfl) (by kernel_rfl) ⟨HB.out.1.drew, HB.out.2.drew⟩ ?_
            repeat (first
                | go_big_quiet_skip
                | (go_big_quiet_want
                   unfold Oper.quiet
                   apply Exists.intro
                   refine ⟨fun wq hwq => ?_, ?_⟩
                   · (have c0 := hwq.1.cell (i := 0) rfl
                      have c1 := hwq.1.cell (i := 1) rfl
                      have c2 := hwq.1.cell (i := 2) rfl
                      have c3 := hwq.1.cell (i := 3) rfl
                      have c4 := hwq.1.cell (i := 4) rfl
                      have c5 := hwq.1.cell (i := 5) rfl
                      have c6 := hwq.1.cell (i := 6) rfl
                      unfold Oper.quietAt
                      go_simp
                      first
                        | exact ⟨rfl, hwq⟩
                        | exact rfl
                        | (go_at_call 26; refine (pg_own3 3 tx n to1 aa al ac ot oe rfl _).mono ?_; rintro e w3 ⟨he, hb⟩; exact ⟨he, hwq.1.below hb hwq.1.lt, hwq.2.trans (hb.mono hwq.2.size)⟩)
                        | (go_at_call 24; refine (pg_sameop 3 3 tx ⟨#[]⟩ n 0 to1 to1 aa none al 0 ac 0 ot 0 oe 0 ar [] HL.out.1 rfl hal _ HS.out _ (HL.out.2.below hwq.2) (AL.nil _ _)).mono ?_; rintro e w3 ⟨he, hb⟩; exact ⟨he, hwq.1.below hb hwq.1.lt, hwq.2.trans (hb.mono hwq.2.size)⟩))
                   simp only [Act.put, List.setIfInBounds_toArray, List.set_cons_zero, List.set_cons_succ]
                   go_big_quiet_on))
            refine wpQuiet_nil ?_
            intro w4 hw4
            have HX := Lib.hid hw4
            clear hw4 HB
            have c0 := HX.out.1.cell (i := 0) rfl
            have c1 := HX.out.1.cell (i := 1) rfl
            have c2 := HX.out.1.cell (i := 2) rfl
            have c3 := HX.out.1.cell (i := 3) rfl
            have c4 := HX.out.1.cell (i := 4) rfl
            have c5 := HX.out.1.cell (i := 5) rfl
            have c6 := HX.out.1.cell (i := 6) rfl
            cases bt with
            | true =>
              obtain rfl : 0 = e := by simpa using he
              clear he
              go_wp2_with (first | (go_at_call 17; refine (pg_inn to1 0 N _ HT.out _).mono ?_; rintro r W5 ⟨rfl, rfl⟩) | fail)
              go_ret
              exact ⟨rfl, HX.out.2⟩
            | false =>
              obtain rfl : 13 = e := by simpa using he
              clear he
              go_wp2_with (first | (go_at_call 17; refine (pg_inn to1 0 N _ HT.out _).mono ?_; rintro r W5 ⟨rfl, rfl⟩) | fail)
              go_ret
              exact ⟨rfl, HX.out.2⟩
        · by_cases h4 : k = 4
          · subst h4
            clear h1 h2 h3
            have HL := Lib.hid (And.intro hl HA)
            obtain ⟨b, hb⟩ : ∃ b, Pg.same ⟨4, tx, n, to1, ar, ot, oe⟩ (Pg.own ⟨4, tx, n, to1, ar, ot, oe⟩) = b := ⟨_, rfl⟩
            unfold Pg.wOp at he
            dsimp only at he
            rw [if_neg (by rw [hw]; omega), hb] at he
            have HS : Hid (Pg.same ⟨4, tx, n, to1, ar, ot, oe⟩ ⟨4, ⟨#[]⟩, n, 0, [], 0, 0⟩ = b) := Lib.hid (by rw [← hb]; rfl)
            simp only [if_true, if_neg (show ¬ (4 : Int) = 1 by decide), if_neg (show ¬ (4 : Int) = 2 by decide), if_neg (show ¬ (4 : Int) = 3 by decide)] at he
            have HW := Lib.hid hw
            clear hb hw hl HA
            go_enter Try.func18, Try.ntmps18
            go_upto_region 1 with fail
            have HB : Hid (Blk (w.alloc (.cells #[.int .i64 4, .string tx, .int .i64 n, .int .i64 to1, .slice aa al ac, .int .i64 ot, .int .i64 oe] 27)) w.heap.size [.int .i64 4, .string tx, .int .i64 n, .int .i64 to1, .slice aa al ac, .int .i64 ot, .int .i64 oe] 27 ∧ Below w.heap.size w (w.alloc (.cells #[.int .i64 4, .string tx, .int .i64 n, .int .i64 to1, .slice aa al ac, .int .i64 ot, .int .i64 oe] 27))) := Lib.hid ⟨Blk.newA _ _ _, (Below.refl _ _).alloc (Nat.le_refl _) _⟩
            revert HB
            generalize (w.alloc (.cells #[.int .i64 4, .string tx, .int .i64 n, .int .i64 to1, .slice aa al ac, .int .i64 ot, .int .i64 oe] 27)) = W0
            intro HB
            have c0 := HB.out.1.cell (i := 0) rfl
            go_upto_region 3 with (first | (go_at_call 12; refine (pg_word _ s HW.out _).mono ?_; rintro e W2 ⟨rfl, rfl⟩) | fail)
            clear c0
            cases b with
            | false =>
              obtain rfl : 2 = e := by simpa using he
              clear he
              refine wp_region_class (fun w' => Blk w' w.heap.size [.int .i64 4, .string tx, .int .i64 n, .int .i64 to1, .slice aa al ac, .int .i64 ot, .int .i64 oe] 27 ∧ Below w.heap.size w w') (by kernel_rfl) (by kernel_rfl) ⟨HB.out.1.drew, HB.out.2.drew⟩ ?_
              repeat (first
                  | go_big_quiet_skip
                  | (go_big_quiet_want
                     unfold Oper.quiet
                     apply Exists.intro
                     refine ⟨fun wq hwq => ?_, ?_⟩
                     · (have c0 := hwq.1.cell (i := 0) rfl
                        have c1 := hwq.1.cell (i := 1) rfl
                        have c2 := hwq.1.cell (i := 2) rfl
                        have c3 := hwq.1.cell (i := 3) rfl
                        have c4 := hwq.1.cell (i := 4) rfl
                        have c5 := hwq.1.cell (i := 5) rfl
                        have c6 := hwq.1.cell (i := 6) rfl
                        unfold Oper.quietAt
                        go_simp
                        first
                          | exact ⟨rfl, hwq⟩
                          | exact rfl
                          | (go_at_call 26; refine (pg_own4 4 tx n to1 aa al ac ot oe rfl _).mono ?_; rintro e w3 ⟨he, hb⟩; exact ⟨he, hwq.1.below hb hwq.1.lt, hwq.2.trans (hb.mono hwq.2.size)⟩)
                          | (go_at_call 24; refine (pg_sameop 4 4 tx ⟨#[]⟩ n n to1 0 aa none al 0 ac 0 ot 0 oe 0 ar [] HL.out.1 rfl hal _ HS.out _ (HL.out.2.below hwq.2) (AL.nil _ _)).mono ?_; rintro e w3 ⟨he, hb⟩; exact ⟨he, hwq.1.below hb hwq.1.lt, hwq.2.trans (hb.mono hwq.2.size)⟩))
                     simp only [Act.put, List.setIfInBounds_toArray, List.set_cons_zero, List.set_cons_succ]
                     go_big_quiet_on))
              refine wpQuiet_nil ?_
              intro w4 hw4
              have HX := Lib.hid hw4
              clear hw4 HB
              go_wp2_with fail
              go_ret
              exact ⟨rfl, HX.out.2⟩
            | true =>
              simp only [Bool.true_eq_false, if_false] at he
              obtain ⟨bt, hbt⟩ : ∃ b, Pg.inB n 0 1000000000000 = b := ⟨_, rfl⟩
              rw [hbt] at he
              have HT := Lib.hid hbt
              clear hbt
              refine wp_region_class (fun w' => Blk w' w.heap.size [.int .i64 4, .string tx, .int .i64 n, .int .i64 to1, .slice aa al ac, .int .i64 ot, .int .i64 oe] 27 ∧ Below w.heap.size w w') (by kernel_rfl) (by kernel_rfl) ⟨HB.out.1.drew, HB.out.2.drew⟩ ?_
              repeat (first
                  | go_big_quiet_skip
                  | (go_big_quiet_want
                     unfold Oper.quiet
                     apply Exists.intro
                     refine ⟨fun wq hwq => ?_, ?_⟩
                     · (have c0 := hwq.1.cell (i := 0) rfl
                        have c1 := hwq.1.cell (i := 1) rfl
                        have c2 := hwq.1.cell (i := 2) rfl
                        have c3 := hwq.1.cell (i := 3) rfl
                        have c4 := hwq.1.cell (i := 4) rfl
                        have c5 := hwq.1.cell (i := 5) rfl
                        have c6 := hwq.1.cell (i := 6) rfl
                        unfold Oper.quietAt
                        go_simp
                        first
                          | exact ⟨rfl, hwq⟩
                          | exact rfl
                          | (go_at_call 26; refine (pg_own4 4 tx n to1 aa al ac ot oe rfl _).mono ?_; rintro e w3 ⟨he, hb⟩; exact ⟨he, hwq.1.below hb hwq.1.lt, hwq.2.trans (hb.mono hwq.2.size)⟩)
                          | (go_at_call 24; refine (pg_sameop 4 4 tx ⟨#[]⟩ n n to1 0 aa none al 0 ac 0 ot 0 oe 0 ar [] HL.out.1 rfl hal _ HS.out _ (HL.out.2.below hwq.2) (AL.nil _ _)).mono ?_; rintro e w3 ⟨he, hb⟩; exact ⟨he, hwq.1.below hb hwq.1.lt, hwq.2.trans (hb.mono hwq.2.size)⟩))
                     simp only [Act.put, List.setIfInBounds_toArray, List.set_cons_zero, List.set_cons_succ]
                     go_big_quiet_on))
              refine wpQuiet_nil ?_
              intro w4 hw4
              have HX := Lib.hid hw4
              clear hw4 HB
              have c0 := HX.out.1.cell (i := 0) rfl
              have c1 := HX.out.1.cell (i := 1) rfl
              have c2 := HX.out.1.cell (i := 2) rfl
              have c3 := HX.out.1.cell (i := 3) rfl
              have c4 := HX.out.1.cell (i := 4) rfl
              have c5 := HX.out.1.cell (i := 5) rfl
              have c6 := HX.out.1.cell (i := 6) rfl
              cases bt with
              | true =>
                obtain rfl : 0 = e := by simpa using he
                clear he
                go_wp2_with (first | (go_at_call 16; refine (pg_ini n 0 1000000000000 _ HT.out _).mono ?_; rintro r W5 ⟨rfl, rfl⟩) | fail)
                go_ret
                exact ⟨rfl, HX.out.2⟩
              | false =>
                obtain rfl : 12 = e := by simpa using he
                clear he
                go_wp2_with (first | (go_at_call 16; refine (pg_ini n 0 1000000000000 _ HT.out _).mono ?_; rintro r W5 ⟨rfl, rfl⟩) | fail)
                go_ret
                exact ⟨rfl, HX.out.2⟩
          · skip
            have HL := Lib.hid (And.intro hl HA)
            obtain ⟨b, hb⟩ : ∃ b, Pg.same ⟨k, tx, n, to1, ar, ot, oe⟩ (Pg.own ⟨k, tx, n, to1, ar, ot, oe⟩) = b := ⟨_, rfl⟩
            unfold Pg.wOp at he
            dsimp only at he
            rw [if_neg (by rw [hw]; omega), hb] at he
            have HS : Hid (Pg.same ⟨k, tx, n, to1, ar, ot, oe⟩ ⟨k, ⟨#[]⟩, 0, 0, [], 0, 0⟩ = b) := Lib.hid (by rw [← hb]; unfold Pg.own; dsimp only; rw [if_neg h1, if_neg h2, if_neg h3, if_neg h4])
            have g1 : (k == 1) = false := by simpa using h1
            have g2 : (k == 2) = false := by simpa using h2
            have g3 : (k == 3) = false := by simpa using h3
            have g4 : (k == 4) = false := by simpa using h4
            have HN := Lib.hid (And.intro h1 (And.intro h2 (And.intro h3 h4)))
            rw [if_neg h1, if_neg h2, if_neg h3, if_neg h4] at he
            clear h1 h2 h3 h4
            have HW := Lib.hid hw
            clear hb hw hl HA
            go_enter Try.func18, Try.ntmps18
            go_upto_region 1 with fail
            have HB : Hid (Blk (w.alloc (.cells #[.int .i64 k, .string tx, .int .i64 n, .int .i64 to1, .slice aa al ac, .int .i64 ot, .int .i64 oe] 27)) w.heap.size [.int .i64 k, .string tx, .int .i64 n, .int .i64 to1, .slice aa al ac, .int .i64 ot, .int .i64 oe] 27 ∧ Below w.heap.size w (w.alloc (.cells #[.int .i64 k, .string tx, .int .i64 n, .int .i64 to1, .slice aa al ac, .int .i64 ot, .int .i64 oe] 27))) := Lib.hid ⟨Blk.newA _ _ _, (Below.refl _ _).alloc (Nat.le_refl _) _⟩
            revert HB
            generalize (w.alloc (.cells #[.int .i64 k, .string tx, .int .i64 n, .int .i64 to1, .slice aa al ac, .int .i64 ot, .int .i64 oe] 27)) = W0
            intro HB
            have c0 := HB.out.1.cell (i := 0) rfl
            go_upto_region 3 with (first | (go_at_call 12; refine (pg_word _ s HW.out _).mono ?_; rintro e W2 ⟨rfl, rfl⟩) | fail)
            clear c0
            cases b with
            | false =>
              obtain rfl : 2 = e := by simpa using he
              clear he
              refine wp_region_class (fun w' => Blk w' w.heap.size [.int .i64 k, .string tx, .int .i64 n, .int .i64 to1, .slice aa al ac, .int .i64 ot, .int .i64 oe] 27 ∧ Below w.heap.size w w') (by kernel_rfl) (by kernel_rfl) ⟨HB.out.1.drew, HB.out.2.drew⟩ ?_
              repeat (first
                  | go_big_quiet_skip
                  | (go_big_quiet_want
                     unfold Oper.quiet
                     apply Exists.intro
                     refine ⟨fun wq hwq => ?_, ?_⟩
                     · (have c0 := hwq.1.cell (i := 0) rfl
                        have c1 := hwq.1.cell (i := 1) rfl
                        have c2 := hwq.1.cell (i := 2) rfl
                        have c3 := hwq.1.cell (i := 3) rfl
                        have c4 := hwq.1.cell (i := 4) rfl
                        have c5 := hwq.1.cell (i := 5) rfl
                        have c6 := hwq.1.cell (i := 6) rfl
                        unfold Oper.quietAt
                        go_simp
                        first
                          | exact ⟨rfl, hwq⟩
                          | exact rfl
                          | (go_at_call 26; refine (pg_own5 k tx n to1 aa al ac ot oe HN.out.1 HN.out.2.1 HN.out.2.2.1 HN.out.2.2.2 _).mono ?_; rintro e w3 ⟨he, hb⟩; exact ⟨he, hwq.1.below hb hwq.1.lt, hwq.2.trans (hb.mono hwq.2.size)⟩)
                          | (go_at_call 24; refine (pg_sameop k k tx ⟨#[]⟩ n 0 to1 0 aa none al 0 ac 0 ot 0 oe 0 ar [] HL.out.1 rfl hal _ HS.out _ (HL.out.2.below hwq.2) (AL.nil _ _)).mono ?_; rintro e w3 ⟨he, hb⟩; exact ⟨he, hwq.1.below hb hwq.1.lt, hwq.2.trans (hb.mono hwq.2.size)⟩))
                     simp only [Act.put, List.setIfInBounds_toArray, List.set_cons_zero, List.set_cons_succ]
                     go_big_quiet_on))
              refine wpQuiet_nil ?_
              intro w4 hw4
              have HX := Lib.hid hw4
              clear hw4 HB
              go_wp2_with fail
              go_ret
              exact ⟨rfl, HX.out.2⟩
            | true =>
              simp only [Bool.true_eq_false, if_false] at he
              subst he
              refine wp_region_class (fun w' => Blk w' w.heap.size [.int .i64 k, .string tx, .int .i64 n, .int .i64 to1, .slice aa al ac, .int .i64 ot, .int .i64 oe] 27 ∧ Below w.heap.size w w') (by kernel_rfl) (by kernel_rfl) ⟨HB.out.1.drew, HB.out.2.drew⟩ ?_
              repeat (first
                  | go_big_quiet_skip
                  | (go_big_quiet_want
                     unfold Oper.quiet
                     apply Exists.intro
                     refine ⟨fun wq hwq => ?_, ?_⟩
                     · (have c0 := hwq.1.cell (i := 0) rfl
                        have c1 := hwq.1.cell (i := 1) rfl
                        have c2 := hwq.1.cell (i := 2) rfl
                        have c3 := hwq.1.cell (i := 3) rfl
                        have c4 := hwq.1.cell (i := 4) rfl
                        have c5 := hwq.1.cell (i := 5) rfl
                        have c6 := hwq.1.cell (i := 6) rfl
                        unfold Oper.quietAt
                        go_simp
                        first
                          | exact ⟨rfl, hwq⟩
                          | exact rfl
                          | (go_at_call 26; refine (pg_own5 k tx n to1 aa al ac ot oe HN.out.1 HN.out.2.1 HN.out.2.2.1 HN.out.2.2.2 _).mono ?_; rintro e w3 ⟨he, hb⟩; exact ⟨he, hwq.1.below hb hwq.1.lt, hwq.2.trans (hb.mono hwq.2.size)⟩)
                          | (go_at_call 24; refine (pg_sameop k k tx ⟨#[]⟩ n 0 to1 0 aa none al 0 ac 0 ot 0 oe 0 ar [] HL.out.1 rfl hal _ HS.out _ (HL.out.2.below hwq.2) (AL.nil _ _)).mono ?_; rintro e w3 ⟨he, hb⟩; exact ⟨he, hwq.1.below hb hwq.1.lt, hwq.2.trans (hb.mono hwq.2.size)⟩))
                     simp only [Act.put, List.setIfInBounds_toArray, List.set_cons_zero, List.set_cons_succ]
                     go_big_quiet_on))
              refine wpQuiet_nil ?_
              intro w4 hw4
              have HX := Lib.hid hw4
              clear hw4 HB
              have c0 := HX.out.1.cell (i := 0) rfl
              have c1 := HX.out.1.cell (i := 1) rfl
              have c2 := HX.out.1.cell (i := 2) rfl
              have c3 := HX.out.1.cell (i := 3) rfl
              have c4 := HX.out.1.cell (i := 4) rfl
              have c5 := HX.out.1.cell (i := 5) rfl
              have c6 := HX.out.1.cell (i := 6) rfl
              go_wp2_with fail
              go_ret
              exact ⟨rfl, HX.out.2⟩
end Go.Proofs.Ytoniipmgkoogbaa
/- Scripts: ops read; what is wrong of a script. -/
namespace Go.Proofs.Ytoniipmgkoogbaa
open Go.ChangeShapes Go.WideShapes Go.ChangeAt Go.RowKit
set_option linter.unusedSimpArgs false
set_option linter.unusedVariables false


/-- A slice (at a) of ops: the first L.length of them are L. -/
def OL (w : World) (a : Option Addr) (L : List Pg.Op) : Prop := ∀ (i : Nat) (k : Int) (tx : ByteArray) (n to1 : Int) (ar : List (ByteArray × Int)) (ot oe : Int), L[i]? = some ⟨k, tx, n, to1, ar, ot, oe⟩ → tx.size ≤ maxLen ∧ ar.length ≤ maxLen ∧ ∃ g o aa ac, a = some ⟨g, o, none⟩ ∧ g < w.heap.size ∧
  w.cell? ⟨g, o + i * 7, none⟩ = some (.int .i64 k) ∧ w.cell? ⟨g, o + i * 7 + 1, none⟩ = some (.string tx) ∧ w.cell? ⟨g, o + i * 7 + 2, none⟩ = some (.int .i64 n) ∧ w.cell? ⟨g, o + i * 7 + 3, none⟩ = some (.int .i64 to1) ∧ w.cell? ⟨g, o + i * 7 + 4, none⟩ = some (.slice aa ar.length ac) ∧ w.cell? ⟨g, o + i * 7 + 5, none⟩ = some (.int .i64 ot) ∧ w.cell? ⟨g, o + i * 7 + 6, none⟩ = some (.int .i64 oe) ∧ AL w aa ar
theorem OL.nil (w : World) (a : Option Addr) : OL w a [] := fun i k tx n to1 ar ot oe h => by simp at h
theorem OL.below {w w' : World} {a : Option Addr} {L : List Pg.Op} (h : OL w a L) (k : Below w.heap.size w w') : OL w' a L := fun i k1 tx n to1 ar ot oe hi => by
  obtain ⟨h0, h1, g, o, aa, ac, h2, h3, c0, c1, c2, c3, c4, c5, c6, hA⟩ := h i k1 tx n to1 ar ot oe hi
  have go : ∀ p v, w.cell? ⟨g, p, none⟩ = some v → w'.cell? ⟨g, p, none⟩ = some v := fun p v hv => by rw [← hv]; exact Chg.cell (l := []) (Chg.of_fresh k) h3 (by simp)
  exact ⟨h0, h1, g, o, aa, ac, h2, Nat.lt_of_lt_of_le h3 k.size, go _ _ c0, go _ _ c1, go _ _ c2, go _ _ c3, go _ _ c4, go _ _ c5, go _ _ c6, hA.below k⟩
theorem wOps_at (N : Nat) (o : Pg.Op) : ∀ (l : List Pg.Op) (i j : Nat), (∀ q o', q < j → l[q]? = some o' → Pg.wOp N o' = 0) → l[j]? = some o → Pg.wOp N o ≠ 0 → Pg.wOps N i l = (i + j, Pg.wOp N o)
  | [], i, j, _, h, _ => by simp at h
  | a :: l, i, 0, _, h, h2 => by
    simp at h
    subst h
    unfold Pg.wOps
    rw [if_pos h2]
    rfl
  | a :: l, i, j + 1, h0, h, h2 => by
    unfold Pg.wOps
    have ha := h0 0 a (by omega) (by simp)
    rw [if_neg (not_not_intro ha), wOps_at N o l (i + 1) j (fun q p' hq hp => h0 (q + 1) p' (by omega) (by simpa using hp)) (by simpa using h) h2]
    congr 1
    omega
theorem wOps_all (N : Nat) : ∀ (l : List Pg.Op) (i : Nat), (∀ (q : Nat) o', l[q]? = some o' → Pg.wOp N o' = 0) → Pg.wOps N i l = (0, 0)
  | [], _, _ => rfl
  | a :: l, i, h0 => by
    unfold Pg.wOps
    have ha := h0 0 a (by simp)
    rw [if_neg (not_not_intro ha)]
    exact wOps_all N l (i + 1) (fun q p' hp => h0 (q + 1) p' (by simpa using hp))
set_option maxRecDepth 20000 in
set_option maxHeartbeats 16000000 in
theorem pg_wrong (nm : ByteArray) (dl jp : Int) (oa : Option Addr) (n c : Nat) (L : List Pg.Op) (hl : L.length = n) (hn : n ≤ maxLen) (hnm : nm.size ≤ maxLen) (i : Int) (e : Nat) (he : Pg.wrong nm dl jp L = (i, e)) (w : World) (HO : OL w oa L) : Calls Try.prog 6 #[.agg #[.string nm, .int .i64 dl, .int .i64 jp, .slice oa n c]] w fun r w' => r = .returned (.tuple #[.int .i64 i, .int .i64 e]) ∧ Below w.heap.size w w' := by
  have hm : maxLen ≤ 9223372036854775807 := by unfold maxLen; omega
  have HL := Lib.hid (And.intro hl HO)
  have HE := Lib.hid he
  clear hl HO he
  obtain ⟨bm, hbm⟩ : ∃ b, Lx.name nm.data.toList = b := ⟨_, rfl⟩
  have HNM := Lib.hid hbm
  obtain ⟨bd, hbd⟩ : ∃ b, Pg.inB dl 1 1000000000000 = b := ⟨_, rfl⟩
  have HI := Lib.hid hbd
  clear hbm hbd
  go_enter Try.func6, Try.ntmps6
  go_upto_region 1 with fail
  have HB : Hid (Blk (w.alloc (.cells #[.string nm, .int .i64 dl, .int .i64 jp, .slice oa n c] 24)) w.heap.size [.string nm, .int .i64 dl, .int .i64 jp, .slice oa n c] 24 ∧ Below w.heap.size w (w.alloc (.cells #[.string nm, .int .i64 dl, .int .i64 jp, .slice oa n c] 24))) := Lib.hid ⟨Blk.newA _ _ _, (Below.refl _ _).alloc (Nat.le_refl _) _⟩
  revert HB
  generalize (w.alloc (.cells #[.string nm, .int .i64 dl, .int .i64 jp, .slice oa n c] 24)) = W0
  intro HB
  have c0 := HB.out.1.cell (i := 0) rfl
  cases bm with
  | false =>
    obtain ⟨rfl, rfl⟩ : -1 = i ∧ 10 = e := by
      have h := HE.out
      unfold Pg.wrong at h
      rw [HNM.out, if_pos rfl] at h
      exact Prod.mk.inj h
    go_wp2_with (first | (go_at_call 15; refine (lx_name nm hnm _ HNM.out _).mono ?_; rintro r W1 ⟨rfl, hb1⟩; have HB1 : Hid (Blk W1 w.heap.size [.string nm, .int .i64 dl, .int .i64 jp, .slice oa n c] 24 ∧ Below w.heap.size w W1) := Lib.hid ⟨HB.out.1.below hb1 HB.out.1.lt, HB.out.2.trans (hb1.mono HB.out.2.size)⟩; clear hb1 c0 HB; have c1 := HB1.out.1.cell (i := 1) rfl; have c2 := HB1.out.1.cell (i := 2) rfl; have c3 := HB1.out.1.cell (i := 3) rfl) | fail)
    go_ret2
    exact ⟨rfl, HB1.out.2⟩
  | true =>
    cases bd with
    | true =>
      have HG : Hid (¬ (Pg.inB dl 1 1000000000000 = false ∧ dl ≠ 9223372036854775807)) := Lib.hid (by rw [HI.out]; simp)
      obtain ⟨bj, hbj⟩ : ∃ b, Pg.inB jp 0 1000 = b := ⟨_, rfl⟩
      have HJ := Lib.hid hbj
      clear hbj
      cases bj with
      | false =>
        obtain ⟨rfl, rfl⟩ : -1 = i ∧ 12 = e := by
          have h := HE.out
          unfold Pg.wrong at h
          rw [HNM.out, if_neg (by decide), if_neg HG.out, if_pos HJ.out] at h
          exact Prod.mk.inj h
        go_wp2_with (first | (go_at_call 15; refine (lx_name nm hnm _ HNM.out _).mono ?_; rintro r W1 ⟨rfl, hb1⟩; have HB1 : Hid (Blk W1 w.heap.size [.string nm, .int .i64 dl, .int .i64 jp, .slice oa n c] 24 ∧ Below w.heap.size w W1) := Lib.hid ⟨HB.out.1.below hb1 HB.out.1.lt, HB.out.2.trans (hb1.mono HB.out.2.size)⟩; clear hb1 c0 HB; have c1 := HB1.out.1.cell (i := 1) rfl; have c2 := HB1.out.1.cell (i := 2) rfl; have c3 := HB1.out.1.cell (i := 3) rfl) | (go_at_call 16; refine (pg_ini _ 1 1000000000000 _ HI.out _).mono ?_; rintro r W2 ⟨rfl, rfl⟩) | (go_at_call 17; refine (pg_inn jp 0 1000 _ HJ.out _).mono ?_; rintro r W3 ⟨rfl, rfl⟩) | fail)
        go_ret2
        exact ⟨rfl, HB1.out.2⟩
      | true =>
        by_cases h200 : 200 < n
        · have i200 : (200 : Int) < (n : Int) := by omega
          obtain ⟨rfl, rfl⟩ : -1 = i ∧ 4 = e := by
            have h := HE.out
            unfold Pg.wrong at h
            rw [HNM.out, if_neg (by decide), if_neg HG.out, if_neg (by rw [HJ.out]; decide), if_pos (by rw [HL.out.1]; exact h200)] at h
            exact Prod.mk.inj h
          go_wp2_with (first | (go_at_call 15; refine (lx_name nm hnm _ HNM.out _).mono ?_; rintro r W1 ⟨rfl, hb1⟩; have HB1 : Hid (Blk W1 w.heap.size [.string nm, .int .i64 dl, .int .i64 jp, .slice oa n c] 24 ∧ Below w.heap.size w W1) := Lib.hid ⟨HB.out.1.below hb1 HB.out.1.lt, HB.out.2.trans (hb1.mono HB.out.2.size)⟩; clear hb1 c0 HB; have c1 := HB1.out.1.cell (i := 1) rfl; have c2 := HB1.out.1.cell (i := 2) rfl; have c3 := HB1.out.1.cell (i := 3) rfl) | (go_at_call 16; refine (pg_ini _ 1 1000000000000 _ HI.out _).mono ?_; rintro r W2 ⟨rfl, rfl⟩) | (go_at_call 17; refine (pg_inn jp 0 1000 _ HJ.out _).mono ?_; rintro r W3 ⟨rfl, rfl⟩) | fail)
          go_ret2
          exact ⟨rfl, HB1.out.2⟩
        · have i200 : ¬ (200 : Int) < (n : Int) := by omega
          have HE2 : Hid ((((Pg.wOps n 0 L).1 : Int), (Pg.wOps n 0 L).2) = (i, e)) := Lib.hid (by
            have h := HE.out
            unfold Pg.wrong at h
            rw [HNM.out, if_neg (by decide), if_neg HG.out, if_neg (by rw [HJ.out]; decide), if_neg (by rw [HL.out.1]; exact h200), HL.out.1] at h
            exact h)
          clear HE HG
          go_upto_region 10 with (first | (go_at_call 15; refine (lx_name nm hnm _ HNM.out _).mono ?_; rintro r W1 ⟨rfl, hb1⟩; have HB1 : Hid (Blk W1 w.heap.size [.string nm, .int .i64 dl, .int .i64 jp, .slice oa n c] 24 ∧ Below w.heap.size w W1) := Lib.hid ⟨HB.out.1.below hb1 HB.out.1.lt, HB.out.2.trans (hb1.mono HB.out.2.size)⟩; clear hb1 c0 HB; have c1 := HB1.out.1.cell (i := 1) rfl; have c2 := HB1.out.1.cell (i := 2) rfl; have c3 := HB1.out.1.cell (i := 3) rfl) | (go_at_call 16; refine (pg_ini _ 1 1000000000000 _ HI.out _).mono ?_; rintro r W2 ⟨rfl, rfl⟩) | (go_at_call 17; refine (pg_inn jp 0 1000 _ HJ.out _).mono ?_; rintro r W3 ⟨rfl, rfl⟩) | fail)
          clear c1 c2 c3
          go_loopw [4, 5, 6, 35] (fun _ _ _ z wr => ∃ j : Nat, z = .int .i64 j ∧ j ≤ n ∧ Hid (∀ q o', q < j → L[q]? = some o' → Pg.wOp n o' = 0) ∧ Hid (Blk wr w.heap.size [.string nm, .int .i64 dl, .int .i64 jp, .slice oa n c] 24 ∧ Below w.heap.size w wr)) (fun _ _ _ z _ => n - (intOf z).toNat)
          case atStart => exact ⟨0, rfl, by omega, Lib.hid (fun q p' hq => by omega), HB1⟩
          case round =>
            clear HB1
            obtain ⟨j, rfl, hj, HK, HB⟩ := hrel
            have i0 : (0 : Int) ≤ (j : Int) := by omega
            by_cases hjl : j < n
            · have i1 : (j : Int) < (n : Int) := by omega
              have w1 : IntKind.i64.wrap ((j : Int) + 1) = (j : Int) + 1 := IntWalk.i64_in _ (by omega)
              obtain ⟨k, tx, n1, to1, ar, ot, oe, es⟩ : ∃ k tx n1 to1 ar ot oe, L[j]? = some ⟨k, tx, n1, to1, ar, ot, oe⟩ := ⟨_, _, _, _, _, _, _, List.getElem?_eq_getElem (by rw [HL.out.1]; exact hjl)⟩
              obtain ⟨htx, hal, g, o, aa, ac, rfl, hg, d0, d1, d2, d3, d4, d5, d6, hA⟩ := (HL.out.2.below HB.out.2) j k tx n1 to1 ar ot oe es
              obtain ⟨q, hq⟩ : ∃ q, Pg.wOp n ⟨k, tx, n1, to1, ar, ot, oe⟩ = q := ⟨_, rfl⟩
              obtain ⟨al, hal2⟩ : ∃ al, ar.length = al := ⟨_, rfl⟩
              rw [hal2] at hal d4
              have HQ := Lib.hid (And.intro hq (And.intro es (And.intro hA hal2)))
              clear hq es hA hal2
              go_upto_region 12 with fail
              have HC : Hid ((Blk (wr.alloc (.cells #[.int .i64 k, .string tx, .int .i64 n1, .int .i64 to1, .slice aa al ac, .int .i64 ot, .int .i64 oe] 27)) w.heap.size [.string nm, .int .i64 dl, .int .i64 jp, .slice (some ⟨g, o, none⟩) n c] 24 ∧ Below w.heap.size w (wr.alloc (.cells #[.int .i64 k, .string tx, .int .i64 n1, .int .i64 to1, .slice aa al ac, .int .i64 ot, .int .i64 oe] 27))) ∧ Blk (wr.alloc (.cells #[.int .i64 k, .string tx, .int .i64 n1, .int .i64 to1, .slice aa al ac, .int .i64 ot, .int .i64 oe] 27)) wr.heap.size [.int .i64 k, .string tx, .int .i64 n1, .int .i64 to1, .slice aa al ac, .int .i64 ot, .int .i64 oe] 27 ∧ AL (wr.alloc (.cells #[.int .i64 k, .string tx, .int .i64 n1, .int .i64 to1, .slice aa al ac, .int .i64 ot, .int .i64 oe] 27)) aa ar) := Lib.hid ⟨⟨HB.out.1.alloc _, HB.out.2.alloc HB.out.2.size _⟩, Blk.newA _ _ _, HQ.out.2.2.1.below ((Below.refl _ _).alloc (Nat.le_refl _) _)⟩
              clear d0 d1 d2 d3 d4 d5 d6 HB
              revert HC
              generalize (wr.alloc (.cells #[.int .i64 k, .string tx, .int .i64 n1, .int .i64 to1, .slice aa al ac, .int .i64 ot, .int .i64 oe] 27)) = V1
              generalize wr.heap.size = Y
              intro HC
              have d0 := HC.out.2.1.cell (i := 0) rfl
              have d1 := HC.out.2.1.cell (i := 1) rfl
              have d2 := HC.out.2.1.cell (i := 2) rfl
              have d3 := HC.out.2.1.cell (i := 3) rfl
              have d4 := HC.out.2.1.cell (i := 4) rfl
              have d5 := HC.out.2.1.cell (i := 5) rfl
              have d6 := HC.out.2.1.cell (i := 6) rfl
              have c3 := HC.out.1.1.cell (i := 3) rfl
              by_cases q0 : q = 0
              · subst q0
                have HK2 : Hid (∀ q o', q < j + 1 → L[q]? = some o' → Pg.wOp n o' = 0) := Lib.hid (fun q p' hq hp => by
                  by_cases e : q = j
                  · rw [e, HQ.out.2.1] at hp; rw [← Option.some.inj hp]; exact HQ.out.1
                  · exact HK.out q p' (by omega) hp)
                go_wp2_with (first
                  | (go_at_call 18; refine (pg_wop k tx n1 to1 aa al ac ot oe ar HQ.out.2.2.2 hal htx n _ HQ.out.1 _ HC.out.2.2).mono ?_; rintro r W4 ⟨rfl, hb1⟩; have HD := Lib.hid (And.intro (HC.out.1.1.below hb1 HC.out.1.1.lt) (HC.out.1.2.trans (hb1.mono HC.out.1.2.size))); clear hb1 d0 d1 d2 d3 d4 d5 d6 c3)
                  | fail)
                go_roundw
                case rel => exact ⟨j + 1, by go_num, by omega, HK2, HD⟩
                case measure => simp [intOf]; omega
              · have q1 : ¬ (q : Int) = 0 := by omega
                obtain ⟨rfl, rfl⟩ : (j : Int) = i ∧ q = e := by
                  have h := HE2.out
                  have h1 := wOps_at n ⟨k, tx, n1, to1, ar, ot, oe⟩ L 0 j HK.out HQ.out.2.1 (by rw [HQ.out.1]; exact q0)
                  rw [h1, HQ.out.1] at h
                  simpa using h
                go_wp2_with (first
                  | (go_at_call 18; refine (pg_wop k tx n1 to1 aa al ac ot oe ar HQ.out.2.2.2 hal htx n _ HQ.out.1 _ HC.out.2.2).mono ?_; rintro r W4 ⟨rfl, hb1⟩; have HD := Lib.hid (And.intro (HC.out.1.1.below hb1 HC.out.1.1.lt) (HC.out.1.2.trans (hb1.mono HC.out.1.2.size))); clear hb1 d0 d1 d2 d3 d4 d5 d6 c3)
                  | fail)
                go_ret2
                exact ⟨rfl, HD.out.2⟩
            · have i1 : ¬ (j : Int) < (n : Int) := by omega
              have h := HE2.out
              rw [wOps_all n L 0 (fun q p' hp => HK.out q p' (by
                have : q < L.length := (List.getElem?_eq_some_iff.1 hp).1
                rw [HL.out.1] at this
                omega) hp)] at h
              obtain ⟨rfl, rfl⟩ : (0 : Int) = i ∧ 0 = e := by simpa using h
              clear h
              go_wp2_with fail
              go_ret2
              exact ⟨rfl, HB.out.2⟩
    | false =>
      by_cases hnv : dl = 9223372036854775807
      · have HG : Hid (¬ (Pg.inB dl 1 1000000000000 = false ∧ dl ≠ 9223372036854775807)) := Lib.hid (fun h => h.2 hnv)
        subst hnv
        obtain ⟨bj, hbj⟩ : ∃ b, Pg.inB jp 0 1000 = b := ⟨_, rfl⟩
        have HJ := Lib.hid hbj
        clear hbj
        cases bj with
        | false =>
          obtain ⟨rfl, rfl⟩ : -1 = i ∧ 12 = e := by
            have h := HE.out
            unfold Pg.wrong at h
            rw [HNM.out, if_neg (by decide), if_neg HG.out, if_pos HJ.out] at h
            exact Prod.mk.inj h
          go_wp2_with (first | (go_at_call 15; refine (lx_name nm hnm _ HNM.out _).mono ?_; rintro r W1 ⟨rfl, hb1⟩; have HB1 : Hid (Blk W1 w.heap.size [.string nm, .int .i64 9223372036854775807, .int .i64 jp, .slice oa n c] 24 ∧ Below w.heap.size w W1) := Lib.hid ⟨HB.out.1.below hb1 HB.out.1.lt, HB.out.2.trans (hb1.mono HB.out.2.size)⟩; clear hb1 c0 HB; have c1 := HB1.out.1.cell (i := 1) rfl; have c2 := HB1.out.1.cell (i := 2) rfl; have c3 := HB1.out.1.cell (i := 3) rfl) | (go_at_call 16; refine (pg_ini _ 1 1000000000000 _ HI.out _).mono ?_; rintro r W2 ⟨rfl, rfl⟩) | (go_at_call 17; refine (pg_inn jp 0 1000 _ HJ.out _).mono ?_; rintro r W3 ⟨rfl, rfl⟩) | fail)
          go_ret2
          exact ⟨rfl, HB1.out.2⟩
        | true =>
          by_cases h200 : 200 < n
          · have i200 : (200 : Int) < (n : Int) := by omega
            obtain ⟨rfl, rfl⟩ : -1 = i ∧ 4 = e := by
              have h := HE.out
              unfold Pg.wrong at h
              rw [HNM.out, if_neg (by decide), if_neg HG.out, if_neg (by rw [HJ.out]; decide), if_pos (by rw [HL.out.1]; exact h200)] at h
              exact Prod.mk.inj h
            go_wp2_with (first | (go_at_call 15; refine (lx_name nm hnm _ HNM.out _).mono ?_; rintro r W1 ⟨rfl, hb1⟩; have HB1 : Hid (Blk W1 w.heap.size [.string nm, .int .i64 9223372036854775807, .int .i64 jp, .slice oa n c] 24 ∧ Below w.heap.size w W1) := Lib.hid ⟨HB.out.1.below hb1 HB.out.1.lt, HB.out.2.trans (hb1.mono HB.out.2.size)⟩; clear hb1 c0 HB; have c1 := HB1.out.1.cell (i := 1) rfl; have c2 := HB1.out.1.cell (i := 2) rfl; have c3 := HB1.out.1.cell (i := 3) rfl) | (go_at_call 16; refine (pg_ini _ 1 1000000000000 _ HI.out _).mono ?_; rintro r W2 ⟨rfl, rfl⟩) | (go_at_call 17; refine (pg_inn jp 0 1000 _ HJ.out _).mono ?_; rintro r W3 ⟨rfl, rfl⟩) | fail)
            go_ret2
            exact ⟨rfl, HB1.out.2⟩
          · have i200 : ¬ (200 : Int) < (n : Int) := by omega
            have HE2 : Hid ((((Pg.wOps n 0 L).1 : Int), (Pg.wOps n 0 L).2) = (i, e)) := Lib.hid (by
              have h := HE.out
              unfold Pg.wrong at h
              rw [HNM.out, if_neg (by decide), if_neg HG.out, if_neg (by rw [HJ.out]; decide), if_neg (by rw [HL.out.1]; exact h200), HL.out.1] at h
              exact h)
            clear HE HG
            go_upto_region 10 with (first | (go_at_call 15; refine (lx_name nm hnm _ HNM.out _).mono ?_; rintro r W1 ⟨rfl, hb1⟩; have HB1 : Hid (Blk W1 w.heap.size [.string nm, .int .i64 9223372036854775807, .int .i64 jp, .slice oa n c] 24 ∧ Below w.heap.size w W1) := Lib.hid ⟨HB.out.1.below hb1 HB.out.1.lt, HB.out.2.trans (hb1.mono HB.out.2.size)⟩; clear hb1 c0 HB; have c1 := HB1.out.1.cell (i := 1) rfl; have c2 := HB1.out.1.cell (i := 2) rfl; have c3 := HB1.out.1.cell (i := 3) rfl) | (go_at_call 16; refine (pg_ini _ 1 1000000000000 _ HI.out _).mono ?_; rintro r W2 ⟨rfl, rfl⟩) | (go_at_call 17; refine (pg_inn jp 0 1000 _ HJ.out _).mono ?_; rintro r W3 ⟨rfl, rfl⟩) | fail)
            clear c1 c2 c3
            go_loopw [4, 5, 6, 35] (fun _ _ _ z wr => ∃ j : Nat, z = .int .i64 j ∧ j ≤ n ∧ Hid (∀ q o', q < j → L[q]? = some o' → Pg.wOp n o' = 0) ∧ Hid (Blk wr w.heap.size [.string nm, .int .i64 9223372036854775807, .int .i64 jp, .slice oa n c] 24 ∧ Below w.heap.size w wr)) (fun _ _ _ z _ => n - (intOf z).toNat)
            case atStart => exact ⟨0, rfl, by omega, Lib.hid (fun q p' hq => by omega), HB1⟩
            case round =>
              clear HB1
              obtain ⟨j, rfl, hj, HK, HB⟩ := hrel
              have i0 : (0 : Int) ≤ (j : Int) := by omega
              by_cases hjl : j < n
              · have i1 : (j : Int) < (n : Int) := by omega
                have w1 : IntKind.i64.wrap ((j : Int) + 1) = (j : Int) + 1 := IntWalk.i64_in _ (by omega)
                obtain ⟨k, tx, n1, to1, ar, ot, oe, es⟩ : ∃ k tx n1 to1 ar ot oe, L[j]? = some ⟨k, tx, n1, to1, ar, ot, oe⟩ := ⟨_, _, _, _, _, _, _, List.getElem?_eq_getElem (by rw [HL.out.1]; exact hjl)⟩
                obtain ⟨htx, hal, g, o, aa, ac, rfl, hg, d0, d1, d2, d3, d4, d5, d6, hA⟩ := (HL.out.2.below HB.out.2) j k tx n1 to1 ar ot oe es
                obtain ⟨q, hq⟩ : ∃ q, Pg.wOp n ⟨k, tx, n1, to1, ar, ot, oe⟩ = q := ⟨_, rfl⟩
                obtain ⟨al, hal2⟩ : ∃ al, ar.length = al := ⟨_, rfl⟩
                rw [hal2] at hal d4
                have HQ := Lib.hid (And.intro hq (And.intro es (And.intro hA hal2)))
                clear hq es hA hal2
                go_upto_region 12 with fail
                have HC : Hid ((Blk (wr.alloc (.cells #[.int .i64 k, .string tx, .int .i64 n1, .int .i64 to1, .slice aa al ac, .int .i64 ot, .int .i64 oe] 27)) w.heap.size [.string nm, .int .i64 9223372036854775807, .int .i64 jp, .slice (some ⟨g, o, none⟩) n c] 24 ∧ Below w.heap.size w (wr.alloc (.cells #[.int .i64 k, .string tx, .int .i64 n1, .int .i64 to1, .slice aa al ac, .int .i64 ot, .int .i64 oe] 27))) ∧ Blk (wr.alloc (.cells #[.int .i64 k, .string tx, .int .i64 n1, .int .i64 to1, .slice aa al ac, .int .i64 ot, .int .i64 oe] 27)) wr.heap.size [.int .i64 k, .string tx, .int .i64 n1, .int .i64 to1, .slice aa al ac, .int .i64 ot, .int .i64 oe] 27 ∧ AL (wr.alloc (.cells #[.int .i64 k, .string tx, .int .i64 n1, .int .i64 to1, .slice aa al ac, .int .i64 ot, .int .i64 oe] 27)) aa ar) := Lib.hid ⟨⟨HB.out.1.alloc _, HB.out.2.alloc HB.out.2.size _⟩, Blk.newA _ _ _, HQ.out.2.2.1.below ((Below.refl _ _).alloc (Nat.le_refl _) _)⟩
                clear d0 d1 d2 d3 d4 d5 d6 HB
                revert HC
                generalize (wr.alloc (.cells #[.int .i64 k, .string tx, .int .i64 n1, .int .i64 to1, .slice aa al ac, .int .i64 ot, .int .i64 oe] 27)) = V1
                generalize wr.heap.size = Y
                intro HC
                have d0 := HC.out.2.1.cell (i := 0) rfl
                have d1 := HC.out.2.1.cell (i := 1) rfl
                have d2 := HC.out.2.1.cell (i := 2) rfl
                have d3 := HC.out.2.1.cell (i := 3) rfl
                have d4 := HC.out.2.1.cell (i := 4) rfl
                have d5 := HC.out.2.1.cell (i := 5) rfl
                have d6 := HC.out.2.1.cell (i := 6) rfl
                have c3 := HC.out.1.1.cell (i := 3) rfl
                by_cases q0 : q = 0
                · subst q0
                  have HK2 : Hid (∀ q o', q < j + 1 → L[q]? = some o' → Pg.wOp n o' = 0) := Lib.hid (fun q p' hq hp => by
                    by_cases e : q = j
                    · rw [e, HQ.out.2.1] at hp; rw [← Option.some.inj hp]; exact HQ.out.1
                    · exact HK.out q p' (by omega) hp)
                  go_wp2_with (first
                    | (go_at_call 18; refine (pg_wop k tx n1 to1 aa al ac ot oe ar HQ.out.2.2.2 hal htx n _ HQ.out.1 _ HC.out.2.2).mono ?_; rintro r W4 ⟨rfl, hb1⟩; have HD := Lib.hid (And.intro (HC.out.1.1.below hb1 HC.out.1.1.lt) (HC.out.1.2.trans (hb1.mono HC.out.1.2.size))); clear hb1 d0 d1 d2 d3 d4 d5 d6 c3)
                    | fail)
                  go_roundw
                  case rel => exact ⟨j + 1, by go_num, by omega, HK2, HD⟩
                  case measure => simp [intOf]; omega
                · have q1 : ¬ (q : Int) = 0 := by omega
                  obtain ⟨rfl, rfl⟩ : (j : Int) = i ∧ q = e := by
                    have h := HE2.out
                    have h1 := wOps_at n ⟨k, tx, n1, to1, ar, ot, oe⟩ L 0 j HK.out HQ.out.2.1 (by rw [HQ.out.1]; exact q0)
                    rw [h1, HQ.out.1] at h
                    simpa using h
                  go_wp2_with (first
                    | (go_at_call 18; refine (pg_wop k tx n1 to1 aa al ac ot oe ar HQ.out.2.2.2 hal htx n _ HQ.out.1 _ HC.out.2.2).mono ?_; rintro r W4 ⟨rfl, hb1⟩; have HD := Lib.hid (And.intro (HC.out.1.1.below hb1 HC.out.1.1.lt) (HC.out.1.2.trans (hb1.mono HC.out.1.2.size))); clear hb1 d0 d1 d2 d3 d4 d5 d6 c3)
                    | fail)
                  go_ret2
                  exact ⟨rfl, HD.out.2⟩
              · have i1 : ¬ (j : Int) < (n : Int) := by omega
                have h := HE2.out
                rw [wOps_all n L 0 (fun q p' hp => HK.out q p' (by
                  have : q < L.length := (List.getElem?_eq_some_iff.1 hp).1
                  rw [HL.out.1] at this
                  omega) hp)] at h
                obtain ⟨rfl, rfl⟩ : (0 : Int) = i ∧ 0 = e := by simpa using h
                clear h
                go_wp2_with fail
                go_ret2
                exact ⟨rfl, HB.out.2⟩
      · obtain ⟨rfl, rfl⟩ : -1 = i ∧ 12 = e := by
          have h := HE.out
          unfold Pg.wrong at h
          rw [HNM.out, if_neg (by decide), if_pos ⟨HI.out, hnv⟩] at h
          exact Prod.mk.inj h
        go_wp2_with (first | (go_at_call 15; refine (lx_name nm hnm _ HNM.out _).mono ?_; rintro r W1 ⟨rfl, hb1⟩; have HB1 : Hid (Blk W1 w.heap.size [.string nm, .int .i64 dl, .int .i64 jp, .slice oa n c] 24 ∧ Below w.heap.size w W1) := Lib.hid ⟨HB.out.1.below hb1 HB.out.1.lt, HB.out.2.trans (hb1.mono HB.out.2.size)⟩; clear hb1 c0 HB; have c1 := HB1.out.1.cell (i := 1) rfl; have c2 := HB1.out.1.cell (i := 2) rfl; have c3 := HB1.out.1.cell (i := 3) rfl) | (go_at_call 16; refine (pg_ini _ 1 1000000000000 _ HI.out _).mono ?_; rintro r W2 ⟨rfl, rfl⟩) | fail)
        go_ret2
        exact ⟨rfl, HB1.out.2⟩
end Go.Proofs.Ytoniipmgkoogbaa
/- Scripts: lives. -/
namespace Go.Proofs.Ytoniipmgkoogbaa
open Go.ChangeShapes Go.WideShapes Go.ChangeAt Go.RowKit
set_option linter.unusedSimpArgs false
set_option linter.unusedVariables false


set_option maxRecDepth 20000 in
set_option maxHeartbeats 8000000 in
theorem pg_good (nm : ByteArray) (dl jp : Int) (oa : Option Addr) (n c : Nat) (L : List Pg.Op) (hl : L.length = n) (hn : n ≤ maxLen) (hnm : nm.size ≤ maxLen) (i : Int) (e : Nat) (he : Pg.wrong nm dl jp L = (i, e)) (b : Bool) (hb : decide (e = 0) = b) (w : World) (HO : OL w oa L) : Calls Try.prog 19 #[.agg #[.string nm, .int .i64 dl, .int .i64 jp, .slice oa n c]] w fun r w' => r = .returned (.bool b) ∧ Below w.heap.size w w' := by
  have HL := Lib.hid (And.intro hl (And.intro HO he))
  clear hl HO he
  by_cases h0 : e = 0
  · have i0 : (e : Int) = 0 := by omega
    obtain rfl : true = b := by rw [← hb]; simp [h0]
    clear hb h0
    go_enter Try.func19, Try.ntmps19
    go_wp2_with (first | (go_at_call 6; refine (pg_wrong nm dl jp oa n c L HL.out.1 hn hnm i e HL.out.2.2 _ (HL.out.2.1.below ((Below.refl _ _).alloc (Nat.le_refl _) _))).mono ?_; rintro r W1 ⟨rfl, hb1⟩; have HB := Lib.hid (((Below.refl w.heap.size w).alloc (Nat.le_refl _) _).trans (hb1.mono (by simp))); clear hb1) | fail)
    go_ret
    exact ⟨rfl, HB.out⟩
  · have i0 : ¬ (e : Int) = 0 := by omega
    have i1 : ((e : Int) == 0) = false := by simpa using i0
    obtain rfl : false = b := by rw [← hb]; simp [h0]
    clear hb h0
    go_enter Try.func19, Try.ntmps19
    go_wp2_with (first | (go_at_call 6; refine (pg_wrong nm dl jp oa n c L HL.out.1 hn hnm i e HL.out.2.2 _ (HL.out.2.1.below ((Below.refl _ _).alloc (Nat.le_refl _) _))).mono ?_; rintro r W1 ⟨rfl, hb1⟩; have HB := Lib.hid (((Below.refl w.heap.size w).alloc (Nat.le_refl _) _).trans (hb1.mono (by simp))); clear hb1) | fail)
    go_ret
    exact ⟨rfl, HB.out⟩
theorem lv13_ol {w : World} {g : Nat} (t : Int) (h : Blk w g [.int .i64 1, .string ⟨#[97]⟩, .int .i64 0, .int .i64 0, .slice none 0 0, .int .i64 0, .int .i64 0, .int .i64 3, .string ⟨#[]⟩, .int .i64 0, .int .i64 t, .slice none 0 0, .int .i64 0, .int .i64 0] 27) : OL w (some ⟨g, 0, none⟩) [⟨1, ⟨#[97]⟩, 0, 0, [], 0, 0⟩, ⟨3, ⟨#[]⟩, 0, t, [], 0, 0⟩] := by
  intro i k tx n to1 ar ot oe hi
  match i, hi with
  | 0, hi =>
    simp at hi
    obtain ⟨rfl, rfl, rfl, rfl, rfl, rfl, rfl⟩ := hi
    exact ⟨by decide, by unfold maxLen; simp, g, 0, none, 0, rfl, h.lt, h.cell (i := 0) rfl, h.cell (i := 1) rfl, h.cell (i := 2) rfl, h.cell (i := 3) rfl, h.cell (i := 4) rfl, h.cell (i := 5) rfl, h.cell (i := 6) rfl, AL.nil _ _⟩
  | 1, hi =>
    simp at hi
    obtain ⟨rfl, rfl, rfl, rfl, rfl, rfl, rfl⟩ := hi
    exact ⟨by decide, by unfold maxLen; simp, g, 0, none, 0, rfl, h.lt, h.cell (i := 7) rfl, h.cell (i := 8) rfl, h.cell (i := 9) rfl, h.cell (i := 10) rfl, h.cell (i := 11) rfl, h.cell (i := 12) rfl, h.cell (i := 13) rfl, AL.nil _ _⟩
  | (m + 2), hi => simp at hi
theorem lv13_a : Pg.wrong ⟨#[97]⟩ 9 0 [⟨1, ⟨#[97]⟩, 0, 0, [], 0, 0⟩, ⟨3, ⟨#[]⟩, 0, 3, [], 0, 0⟩] = (1, 13) := by decide +kernel
theorem lv13_b : Pg.wrong ⟨#[97]⟩ 9 0 [⟨1, ⟨#[97]⟩, 0, 0, [], 0, 0⟩, ⟨3, ⟨#[]⟩, 0, 2, [], 0, 0⟩] = (0, 0) := by decide +kernel
set_option maxRecDepth 20000 in
set_option maxHeartbeats 8000000 in
theorem lives13 (w : World) : Calls Try.prog 7 #[] w fun r w' => r = .returned (.bool true) ∧ Below w.heap.size w w' := by
  go_enter Try.func7, Try.ntmps7
  go_upto_region 2 with fail
  have H0 : Hid (Blk ((w.alloc (.cells #[.int .i64 1, .string ⟨#[97]⟩, .int .i64 0, .int .i64 0, .slice none 0 0, .int .i64 0, .int .i64 0, .int .i64 3, .string ⟨#[]⟩, .int .i64 0, .int .i64 3, .slice none 0 0, .int .i64 0, .int .i64 0] 27)).alloc (.cells #[.string ⟨#[97]⟩, .int .i64 9, .int .i64 0, .slice (some ⟨w.heap.size, 0, none⟩) 2 2] 24)) w.heap.size [.int .i64 1, .string ⟨#[97]⟩, .int .i64 0, .int .i64 0, .slice none 0 0, .int .i64 0, .int .i64 0, .int .i64 3, .string ⟨#[]⟩, .int .i64 0, .int .i64 3, .slice none 0 0, .int .i64 0, .int .i64 0] 27 ∧ Blk ((w.alloc (.cells #[.int .i64 1, .string ⟨#[97]⟩, .int .i64 0, .int .i64 0, .slice none 0 0, .int .i64 0, .int .i64 0, .int .i64 3, .string ⟨#[]⟩, .int .i64 0, .int .i64 3, .slice none 0 0, .int .i64 0, .int .i64 0] 27)).alloc (.cells #[.string ⟨#[97]⟩, .int .i64 9, .int .i64 0, .slice (some ⟨w.heap.size, 0, none⟩) 2 2] 24)) (w.heap.size + 1) [.string ⟨#[97]⟩, .int .i64 9, .int .i64 0, .slice (some ⟨w.heap.size, 0, none⟩) 2 2] 24 ∧ Below w.heap.size w ((w.alloc (.cells #[.int .i64 1, .string ⟨#[97]⟩, .int .i64 0, .int .i64 0, .slice none 0 0, .int .i64 0, .int .i64 0, .int .i64 3, .string ⟨#[]⟩, .int .i64 0, .int .i64 3, .slice none 0 0, .int .i64 0, .int .i64 0] 27)).alloc (.cells #[.string ⟨#[97]⟩, .int .i64 9, .int .i64 0, .slice (some ⟨w.heap.size, 0, none⟩) 2 2] 24))) := Lib.hid (by
    have b := Blk.newA (w.alloc (.cells #[.int .i64 1, .string ⟨#[97]⟩, .int .i64 0, .int .i64 0, .slice none 0 0, .int .i64 0, .int .i64 0, .int .i64 3, .string ⟨#[]⟩, .int .i64 0, .int .i64 3, .slice none 0 0, .int .i64 0, .int .i64 0] 27)) #[.string ⟨#[97]⟩, .int .i64 9, .int .i64 0, .slice (some ⟨w.heap.size, 0, none⟩) 2 2] 24
    have e : (w.alloc (.cells #[.int .i64 1, .string ⟨#[97]⟩, .int .i64 0, .int .i64 0, .slice none 0 0, .int .i64 0, .int .i64 0, .int .i64 3, .string ⟨#[]⟩, .int .i64 0, .int .i64 3, .slice none 0 0, .int .i64 0, .int .i64 0] 27)).heap.size = w.heap.size + 1 := by simp
    rw [e] at b
    exact ⟨(Blk.newA w #[.int .i64 1, .string ⟨#[97]⟩, .int .i64 0, .int .i64 0, .slice none 0 0, .int .i64 0, .int .i64 0, .int .i64 3, .string ⟨#[]⟩, .int .i64 0, .int .i64 3, .slice none 0 0, .int .i64 0, .int .i64 0] 27).alloc _, b, bel2 w _ _⟩)
  revert H0
  generalize ((w.alloc (.cells #[.int .i64 1, .string ⟨#[97]⟩, .int .i64 0, .int .i64 0, .slice none 0 0, .int .i64 0, .int .i64 0, .int .i64 3, .string ⟨#[]⟩, .int .i64 0, .int .i64 3, .slice none 0 0, .int .i64 0, .int .i64 0] 27)).alloc (.cells #[.string ⟨#[97]⟩, .int .i64 9, .int .i64 0, .slice (some ⟨w.heap.size, 0, none⟩) 2 2] 24)) = W0
  intro H0
  have p0 := H0.out.2.1.cell (i := 0) rfl
  have p1 := H0.out.2.1.cell (i := 1) rfl
  have p2 := H0.out.2.1.cell (i := 2) rfl
  have p3 := H0.out.2.1.cell (i := 3) rfl
  go_upto_region 3 with (go_at_call 6; refine (pg_wrong ⟨#[97]⟩ 9 0 _ 2 2 [⟨1, ⟨#[97]⟩, 0, 0, [], 0, 0⟩, ⟨3, ⟨#[]⟩, 0, 3, [], 0, 0⟩] rfl (by unfold maxLen; omega) (by decide) 1 13 lv13_a _ (lv13_ol 3 H0.out.1)).mono ?_; rintro r W1 ⟨rfl, hb1⟩; have H1 := Lib.hid (And.intro (H0.out.1.below hb1 H0.out.1.lt) (And.intro (H0.out.2.1.below hb1 H0.out.2.1.lt) (H0.out.2.2.trans (hb1.mono H0.out.2.2.size)))); clear hb1 p0 p1 p2 p3 H0)
  have p3 := H1.out.2.1.cell (i := 3) rfl
  have q3 := H1.out.1.cell (i := 10) rfl
  have f3 := H1.out.1.free 10
  go_upto_region 4 with fail
  have H2 : Hid (Blk (W1.setCell ⟨w.heap.size, 10, none⟩ (.int .i64 2)) w.heap.size [.int .i64 1, .string ⟨#[97]⟩, .int .i64 0, .int .i64 0, .slice none 0 0, .int .i64 0, .int .i64 0, .int .i64 3, .string ⟨#[]⟩, .int .i64 0, .int .i64 2, .slice none 0 0, .int .i64 0, .int .i64 0] 27 ∧ Blk (W1.setCell ⟨w.heap.size, 10, none⟩ (.int .i64 2)) (w.heap.size + 1) [.string ⟨#[97]⟩, .int .i64 9, .int .i64 0, .slice (some ⟨w.heap.size, 0, none⟩) 2 2] 24 ∧ Below w.heap.size w (W1.setCell ⟨w.heap.size, 10, none⟩ (.int .i64 2))) := Lib.hid ⟨H1.out.1.set 10 _, H1.out.2.1.other (by omega) _ _, H1.out.2.2.trans (((Chg.refl [w.heap.size] W1).set (Or.inl (by simp)) 10 _).below H1.out.2.2.size (by simp))⟩
  clear p3 q3 f3
  revert H2
  generalize (W1.setCell ⟨w.heap.size, 10, none⟩ (.int .i64 2)) = W2
  intro H2
  have p0 := H2.out.2.1.cell (i := 0) rfl
  have p1 := H2.out.2.1.cell (i := 1) rfl
  have p2 := H2.out.2.1.cell (i := 2) rfl
  have p3 := H2.out.2.1.cell (i := 3) rfl
  go_wp2_with (first
    | (go_at_call 19; refine (pg_good ⟨#[97]⟩ 9 0 _ 2 2 [⟨1, ⟨#[97]⟩, 0, 0, [], 0, 0⟩, ⟨3, ⟨#[]⟩, 0, 2, [], 0, 0⟩] rfl (by unfold maxLen; omega) (by decide) 0 0 lv13_b true rfl _ (lv13_ol 2 H2.out.1)).mono ?_; rintro r W3 ⟨rfl, hb1⟩; have H3 := Lib.hid (H2.out.2.2.trans (hb1.mono H2.out.2.2.size)); clear hb1)
    | (go_at_call 12; refine (pg_word 1 { data := #[115, 101, 110, 100] } rfl _).mono ?_; rintro r W4 ⟨rfl, rfl⟩)
    | fail)
  go_ret
  exact ⟨rfl, H3.out⟩
end Go.Proofs.Ytoniipmgkoogbaa
/- Scripts: rows of ops of one's own. -/
namespace Go.Proofs.Ytoniipmgkoogbaa
open Go.ChangeShapes Go.WideShapes Go.ChangeAt Go.RowKit
set_option linter.unusedSimpArgs false
set_option linter.unusedVariables false


/-- The cells of an op, its arms at r (room for c). -/
def Pg.oc (t : Pg.Op × Option Addr × Nat) : List Value := [.int .i64 t.1.k, .string t.1.tx, .int .i64 t.1.n, .int .i64 t.1.to1, .slice t.2.1 t.1.ar.length t.2.2, .int .i64 t.1.ot, .int .i64 t.1.oe]
def pcs : List (Pg.Op × Option Addr × Nat) → List Value
  | [] => []
  | t :: l => Pg.oc t ++ pcs l
theorem pcs_snoc (l : List (Pg.Op × Option Addr × Nat)) (t : Pg.Op × Option Addr × Nat) : pcs (l ++ [t]) = pcs l ++ Pg.oc t := by
  induction l with
  | nil => simp [pcs]
  | cons a l ih => simp only [List.cons_append, pcs, ih, List.append_assoc]
theorem pcs_len : ∀ l : List (Pg.Op × Option Addr × Nat), (pcs l).length = l.length * 7
  | [] => rfl
  | t :: l => by simp only [pcs, List.length_append, pcs_len l, List.length_cons]; simp [Pg.oc]; omega
theorem pcs_at : ∀ (l : List (Pg.Op × Option Addr × Nat)) (i j : Nat) (t : Pg.Op × Option Addr × Nat), l[i]? = some t → j < 7 → (pcs l)[i * 7 + j]? = (Pg.oc t)[j]?
  | [], i, j, t, h, _ => by simp at h
  | a :: l, 0, j, t, h, hj => by
    simp at h
    subst h
    simp only [pcs]
    rw [List.getElem?_append_left (by simp [Pg.oc]; omega)]
    simp
  | a :: l, i + 1, j, t, h, hj => by
    simp only [pcs]
    rw [List.getElem?_append_right (by simp [Pg.oc]; omega)]
    have e : (i + 1) * 7 + j - (Pg.oc a).length = i * 7 + j := by simp [Pg.oc]; omega
    rw [e]
    exact pcs_at l i j t (by simpa using h) hj
theorem new_at (w : World) (cs : Array Value) (T : TypeId) (j : Nat) (u : Value) (hj : cs.toList[j]? = some u) : (w.alloc (.cells cs T)).cell? ((⟨w.heap.size, 0, none⟩ : Addr).add j) = some u := by
  have h := (Blk.newA w cs T).cell (i := j) hj
  have e : (⟨w.heap.size, 0, none⟩ : Addr).add j = ⟨w.heap.size, j, none⟩ := by
    by_cases h0 : j = 0
    · subst h0; simp [Addr.add]
    · simp [Addr.add, h0]
  rw [e]; exact h
theorem infoOp : (Try.prog.info? 27).map (fun i => (i.zero, i.size, i.bytes)) = some (some (.agg #[.int .i64 0, .string ByteArray.empty, .int .i64 0, .int .i64 0, .slice none 0 0, .int .i64 0, .int .i64 0]), 7, 80) := by kernel_rfl
theorem infoArm : (Try.prog.info? 38).map (fun i => (i.zero, i.size, i.bytes)) = some (some (.agg #[.string ByteArray.empty, .int .i64 0]), 2, 24) := by kernel_rfl
theorem oc_one (t : Pg.Op × Option Addr × Nat) : ∀ u ∈ Pg.oc t, u.oneCell' = true := by
  intro u hu
  simp [Pg.oc] at hu
  rcases hu with h | h | h | h | h | h | h <;> subst h <;> rfl
/-- A row of ops at the head of a block: its arms readable. -/
theorem ol_of {w : World} {g cap : Nat} {l : List (Pg.Op × Option Addr × Nat)} (h : Rn w g cap 7 (pcs l) 27) (hA : ∀ t ∈ l, t.1.tx.size ≤ maxLen ∧ t.1.ar.length ≤ maxLen ∧ AL w t.2.1 t.1.ar) : OL w (some ⟨g, 0, none⟩) (l.map (·.1)) := by
  intro i k tx n to1 ar ot oe hi
  rw [List.getElem?_map] at hi
  obtain ⟨⟨o, aa, ac⟩, ht, rfl⟩ := Option.map_eq_some_iff.1 hi
  have hm := hA _ (List.mem_of_getElem? ht)
  have at0 := fun j hj => pcs_at l i j _ ht hj
  refine ⟨hm.1, hm.2.1, g, 0, aa, ac, rfl, h.lt, ?_, ?_, ?_, ?_, ?_, ?_, ?_, hm.2.2⟩
  · rw [Nat.zero_add]; exact h.cell (at0 0 (by decide))
  · rw [Nat.zero_add]; exact h.cell (at0 1 (by decide))
  · rw [Nat.zero_add]; exact h.cell (at0 2 (by decide))
  · rw [Nat.zero_add]; exact h.cell (at0 3 (by decide))
  · rw [Nat.zero_add]; exact h.cell (at0 4 (by decide))
  · rw [Nat.zero_add]; exact h.cell (at0 5 (by decide))
  · rw [Nat.zero_add]; exact h.cell (at0 6 (by decide))
end Go.Proofs.Ytoniipmgkoogbaa
