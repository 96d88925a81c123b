/- Scripts: what is wrong of a text, a send, an arm; what an op keeps. -/
import Derived.Test.YtoniipmgkoogbaaArB
import Derived.Test.YtoniipmgkoogbaaLxN
import Derived.Test.YtoniipmgkoogbaaClass
import Derived.Lib.SliceRun
import Derived.Deep.RegionLaw
import Derived.WalkKit
import Derived.ProofKit
import Derived.Handy
import Derived.WalkLawsBesides
import Derived.WalkSpells
import Derived.Lib.Hide
import Derived.RegionTactic
import Derived.ChangeAlike
import Derived.WalkSmall
import Derived.Deep.QuietTactic
import Derived.BigQuiet
import Derived.OwnWalk
import Derived.Outline
import Derived.Deep.CutRange
import Derived.Deep.CutBlock
import Derived.LoopTactic
namespace Go.Proofs.Ytoniipmgkoogbaa
open Go.ChangeShapes Go.WideShapes Go.ChangeAt Go.RowKit
set_option linter.unusedSimpArgs false
set_option linter.unusedVariables false


/-- A kind's word. -/
def Pg.word (k : Int) : ByteArray := if k = 1 then { data := #[115, 101, 110, 100] } else if k = 2 then { data := #[101, 120, 112, 101, 99, 116] } else if k = 3 then { data := #[103, 111, 116, 111] } else if k = 4 then { data := #[112, 97, 117, 115, 101] } else if k = 5 then { data := #[100, 111, 110, 101] } else if k = 6 then { data := #[102, 97, 105, 108] } else { data := #[] }
set_option maxRecDepth 20000 in
set_option maxHeartbeats 4000000 in
theorem pg_word (k : Int) (s : ByteArray) (hs : Pg.word k = s) (w : World) : Calls Try.prog 12 #[.int .i64 k] w fun e w' => e = .returned (.string s) ∧ w' = w := by
  by_cases h1 : k = 1
  · subst h1
    obtain rfl : ({ data := #[115, 101, 110, 100] } : ByteArray) = s := hs
    go_enter Try.func12, Try.ntmps12
    go_wp2_with fail
    go_ret
    exact ⟨rfl, rfl⟩
  · skip
    by_cases h2 : k = 2
    · subst h2
      obtain rfl : ({ data := #[101, 120, 112, 101, 99, 116] } : ByteArray) = s := hs
      clear h1
      go_enter Try.func12, Try.ntmps12
      go_wp2_with fail
      go_ret
      exact ⟨rfl, rfl⟩
    · skip
      by_cases h3 : k = 3
      · subst h3
        obtain rfl : ({ data := #[103, 111, 116, 111] } : ByteArray) = s := hs
        clear h1 h2
        go_enter Try.func12, Try.ntmps12
        go_wp2_with fail
        go_ret
        exact ⟨rfl, rfl⟩
      · skip
        by_cases h4 : k = 4
        · subst h4
          obtain rfl : ({ data := #[112, 97, 117, 115, 101] } : ByteArray) = s := hs
          clear h1 h2 h3
          go_enter Try.func12, Try.ntmps12
          go_wp2_with fail
          go_ret
          exact ⟨rfl, rfl⟩
        · skip
          by_cases h5 : k = 5
          · subst h5
            obtain rfl : ({ data := #[100, 111, 110, 101] } : ByteArray) = s := hs
            clear h1 h2 h3 h4
            go_enter Try.func12, Try.ntmps12
            go_wp2_with fail
            go_ret
            exact ⟨rfl, rfl⟩
          · skip
            by_cases h6 : k = 6
            · subst h6
              obtain rfl : ({ data := #[102, 97, 105, 108] } : ByteArray) = s := hs
              clear h1 h2 h3 h4 h5
              go_enter Try.func12, Try.ntmps12
              go_wp2_with fail
              go_ret
              exact ⟨rfl, rfl⟩
            · skip
              obtain rfl : ({ data := #[] } : ByteArray) = s := by rw [← hs]; unfold Pg.word; rw [if_neg h1, if_neg h2, if_neg h3, if_neg h4, if_neg h5, if_neg h6]
              have g1 : (k == 1) = false := by simpa using h1
              have g2 : (k == 2) = false := by simpa using h2
              have g3 : (k == 3) = false := by simpa using h3
              have g4 : (k == 4) = false := by simpa using h4
              have g5 : (k == 5) = false := by simpa using h5
              have g6 : (k == 6) = false := by simpa using h6
              clear hs h1 h2 h3 h4 h5 h6
              go_enter Try.func12, Try.ntmps12
              go_wp2_with fail
              go_ret
              exact ⟨rfl, rfl⟩
/-- An op: its kind, text, ticks, goal, arms (a pattern's text and a goal), and where it goes on. -/
structure Pg.Op where
  k : Int
  tx : ByteArray
  n : Int
  to1 : Int
  ar : List (ByteArray × Int)
  ot : Int
  oe : Int
def Pg.inB (x lo hi : Int) : Bool := decide (lo ≤ x) && decide (x ≤ hi)
/-- What is wrong of an arm of a script of so many ops. -/
def Pg.wArm (N : Nat) (p : ByteArray × Int) : Nat := if 64 < p.1.size then 4 else if Ar.ck p.1 ≠ 0 then Ar.ck p.1 else if Pg.inB p.2 0 N = true then 0 else 13
/-- What is wrong of the first arm of which something is. -/
def Pg.wArms (N : Nat) : List (ByteArray × Int) → Nat
  | [] => 0
  | p :: l => if Pg.wArm N p ≠ 0 then Pg.wArm N p else Pg.wArms N l
def Pg.wSend (o : Pg.Op) : Nat := if o.tx.size = 0 then 9 else if 256 < o.tx.size then 4 else 0
def Pg.wExp (N : Nat) (o : Pg.Op) : Nat :=
  if Pg.inB o.n 0 1000000000000 = false ∧ o.n ≠ 9223372036854775807 then 12 else if 8 < o.ar.length then 4 else if Pg.wArms N o.ar ≠ 0 then Pg.wArms N o.ar else
  if Pg.inB o.ot (-1) N = true ∧ Pg.inB o.oe (-1) N = true then 0 else 13
/-- What an op's kind leaves of it. -/
def Pg.own (o : Pg.Op) : Pg.Op :=
  if o.k = 1 then ⟨o.k, o.tx, 0, 0, [], 0, 0⟩ else if o.k = 2 then ⟨o.k, ⟨#[]⟩, o.n, 0, o.ar, o.ot, o.oe⟩ else if o.k = 3 then ⟨o.k, ⟨#[]⟩, 0, o.to1, [], 0, 0⟩ else
  if o.k = 4 then ⟨o.k, ⟨#[]⟩, o.n, 0, [], 0, 0⟩ else ⟨o.k, ⟨#[]⟩, 0, 0, [], 0, 0⟩
/-- Are two ops one, part by part? -/
def Pg.same (a b : Pg.Op) : Bool := decide (a.k = b.k) && (decide (a.tx = b.tx) && (decide (a.n = b.n) && (decide (a.to1 = b.to1) && (decide (a.ar = b.ar) && (decide (a.ot = b.ot) && decide (a.oe = b.oe))))))
def Pg.wOp (N : Nat) (o : Pg.Op) : Nat :=
  if (Pg.word o.k).size = 0 then 11 else if Pg.same o (Pg.own o) = false then 2 else
  if o.k = 1 then Pg.wSend o else if o.k = 2 then Pg.wExp N o else if o.k = 3 then (if Pg.inB o.to1 0 N = true then 0 else 13) else if o.k = 4 then (if Pg.inB o.n 0 1000000000000 = true then 0 else 12) else 0
/-- The first op of which something is wrong (from op i on), and what. -/
def Pg.wOps (N : Nat) : Nat → List Pg.Op → Nat × Nat
  | _, [] => (0, 0)
  | i, o :: l => if Pg.wOp N o ≠ 0 then (i, Pg.wOp N o) else Pg.wOps N (i + 1) l
/-- What is wrong of a script, and where. -/
def Pg.wrong (nm : ByteArray) (dl jp : Int) (l : List Pg.Op) : Int × Nat :=
  if Lx.name nm.data.toList = false then (-1, 10) else if Pg.inB dl 1 1000000000000 = false ∧ dl ≠ 9223372036854775807 then (-1, 12) else if Pg.inB jp 0 1000 = false then (-1, 12) else
  if 200 < l.length then (-1, 4) else ((Pg.wOps l.length 0 l).1, (Pg.wOps l.length 0 l).2)
theorem pg_ini (x lo hi : Int) (b : Bool) (hb : (decide (lo ≤ x) && decide (x ≤ hi)) = b) (w : World) : Calls Try.prog 16 #[.int .i64 x, .int .i64 lo, .int .i64 hi] w fun e w' => e = .returned (.bool b) ∧ w' = w := by
  by_cases h1 : lo ≤ x
  · by_cases h2 : x ≤ hi
    · obtain rfl : true = b := by rw [← hb]; simp [h1, h2]
      clear hb
      go_enter Try.func16, Try.ntmps16
      go_wp2_with fail
      go_ret
      exact ⟨rfl, rfl⟩
    · obtain rfl : false = b := by rw [← hb]; simp [h2]
      clear hb
      go_enter Try.func16, Try.ntmps16
      go_wp2_with fail
      go_ret
      exact ⟨rfl, rfl⟩
  · obtain rfl : false = b := by rw [← hb]; simp [h1]
    clear hb
    go_enter Try.func16, Try.ntmps16
    go_wp2_with fail
    go_ret
    exact ⟨rfl, rfl⟩
theorem pg_inn (x lo hi : Int) (b : Bool) (hb : (decide (lo ≤ x) && decide (x ≤ hi)) = b) (w : World) : Calls Try.prog 17 #[.int .i64 x, .int .i64 lo, .int .i64 hi] w fun e w' => e = .returned (.bool b) ∧ w' = w := by
  by_cases h1 : lo ≤ x
  · by_cases h2 : x ≤ hi
    · obtain rfl : true = b := by rw [← hb]; simp [h1, h2]
      clear hb
      go_enter Try.func17, Try.ntmps17
      go_wp2_with fail
      go_ret
      exact ⟨rfl, rfl⟩
    · obtain rfl : false = b := by rw [← hb]; simp [h2]
      clear hb
      go_enter Try.func17, Try.ntmps17
      go_wp2_with fail
      go_ret
      exact ⟨rfl, rfl⟩
  · obtain rfl : false = b := by rw [← hb]; simp [h1]
    clear hb
    go_enter Try.func17, Try.ntmps17
    go_wp2_with fail
    go_ret
    exact ⟨rfl, rfl⟩
set_option maxRecDepth 20000 in
set_option maxHeartbeats 4000000 in
theorem pg_send (k : Int) (tx : ByteArray) (n to1 : Int) (aa : Option Addr) (al ac : Nat) (ot oe : Int) (ar : List (ByteArray × Int)) (hs : tx.size ≤ maxLen) (e : Nat) (he : Pg.wSend ⟨k, tx, n, to1, ar, ot, oe⟩ = e) (w : World) : Calls Try.prog 27 #[.agg #[.int .i64 k, .string tx, .int .i64 n, .int .i64 to1, .slice aa al ac, .int .i64 ot, .int .i64 oe]] w fun r w' => r = .returned (.int .i64 e) ∧ Below w.heap.size w w' := by
  have hm : maxLen ≤ 9223372036854775807 := by unfold maxLen; omega
  unfold Pg.wSend at he
  dsimp only at he
  by_cases h0 : tx.size = 0
  · rw [if_pos h0] at he
    subst he
    have ht : tx = ⟨#[]⟩ := by
      have : tx.data.size = 0 := h0
      cases tx with | mk d => simp at this; rw [this]
    subst ht
    clear h0 hs
    go_enter Try.func27, Try.ntmps27
    go_wp2_with fail
    go_ret
    exact ⟨rfl, (Below.refl _ _).alloc (Nat.le_refl _) _⟩
  · rw [if_neg h0] at he
    have hf := lxn_full (G := tx) (by omega)
    by_cases h1 : 256 < tx.size
    · rw [if_pos h1] at he
      subst he
      have i1 : (256 : Int) < (tx.size : Int) := by omega
      clear h0 hs
      go_enter Try.func27, Try.ntmps27
      go_wp2_with fail
      go_ret
      exact ⟨rfl, (Below.refl _ _).alloc (Nat.le_refl _) _⟩
    · rw [if_neg h1] at he
      subst he
      have i1 : ¬ (256 : Int) < (tx.size : Int) := by omega
      clear h0 hs
      go_enter Try.func27, Try.ntmps27
      go_wp2_with fail
      go_ret
      exact ⟨rfl, (Below.refl _ _).alloc (Nat.le_refl _) _⟩
set_option maxRecDepth 20000 in
set_option maxHeartbeats 4000000 in
theorem pg_arm (s : ByteArray) (t : Int) (N : Nat) (hs : s.size ≤ maxLen) (e : Nat) (he : Pg.wArm N (s, t) = e) (w : World) : Calls Try.prog 30 #[.agg #[.string s, .int .i64 t], .int .i64 N] w fun r w' => r = .returned (.int .i64 e) ∧ Below w.heap.size w w' := by
  have hm : maxLen ≤ 9223372036854775807 := by unfold maxLen; omega
  unfold Pg.wArm at he
  dsimp only at he
  by_cases h64 : 64 < s.size
  · rw [if_pos h64] at he
    subst he
    have i1 : (64 : Int) < (s.size : Int) := by omega
    go_enter Try.func30, Try.ntmps30
    go_wp2_with fail
    go_ret
    exact ⟨rfl, (Below.refl _ _).alloc (Nat.le_refl _) _⟩
  · rw [if_neg h64] at he
    have i1 : ¬ (64 : Int) < (s.size : Int) := by omega
    have h1000 : s.size ≤ 1000000 := by omega
    obtain ⟨p, hp⟩ : ∃ p, Ar.pl s = p := ⟨_, rfl⟩
    obtain ⟨q, hq⟩ : ∃ q, Ar.ck s = q := ⟨_, rfl⟩
    rw [hq] at he
    have HC := Lib.hid (And.intro hp hq)
    clear hp hq
    obtain ⟨W0, hW0⟩ : ∃ W0, w.alloc (.cells #[.string s, .int .i64 t] 38) = W0 := ⟨_, rfl⟩
    have HB : Hid (Blk W0 w.heap.size [.string s, .int .i64 t] 38 ∧ Below w.heap.size w W0) := Lib.hid (by rw [← hW0]; exact ⟨Blk.newA _ _ _, (Below.refl _ _).alloc (Nat.le_refl _) _⟩)
    by_cases h0 : q = 0
    · rw [if_neg (not_not_intro h0)] at he
      have i2 : (q : Int) = 0 := by omega
      obtain ⟨b, hb⟩ : ∃ b, Pg.inB t 0 N = b := ⟨_, rfl⟩
      rw [hb] at he
      have HI := Lib.hid hb
      cases b with
      | true =>
        simp only [if_true] at he
        subst he
        clear hb h64 h0
        go_enter Try.func30, Try.ntmps30
        go_upto_region 1 with fail
        (try rw [hW0])
        have c0 := HB.out.1.cell (i := 0) rfl
        have c1 := HB.out.1.cell (i := 1) rfl
        clear hW0
        go_wp2_with (first
          | (go_at_call 31; refine (ar_check s h1000 p q HC.out.1 HC.out.2 _).mono ?_; rintro e W1 ⟨rfl, hb1⟩; have HD := Lib.hid (And.intro (HB.out.1.below hb1 HB.out.1.lt) (HB.out.2.trans (hb1.mono HB.out.2.size))); clear hb1 c0 c1; have c0 := HD.out.1.cell (i := 0) rfl; have c1 := HD.out.1.cell (i := 1) rfl)
          | (go_at_call 17; refine (pg_inn t 0 N _ HI.out _).mono ?_; rintro e W2 ⟨rfl, rfl⟩)
          | fail)
        go_ret
        exact ⟨rfl, HD.out.2⟩
      | false =>
        simp only [Bool.false_eq_true, if_false] at he
        subst he
        clear hb h64 h0
        go_enter Try.func30, Try.ntmps30
        go_upto_region 1 with fail
        (try rw [hW0])
        have c0 := HB.out.1.cell (i := 0) rfl
        have c1 := HB.out.1.cell (i := 1) rfl
        clear hW0
        go_wp2_with (first
          | (go_at_call 31; refine (ar_check s h1000 p q HC.out.1 HC.out.2 _).mono ?_; rintro e W1 ⟨rfl, hb1⟩; have HD := Lib.hid (And.intro (HB.out.1.below hb1 HB.out.1.lt) (HB.out.2.trans (hb1.mono HB.out.2.size))); clear hb1 c0 c1; have c0 := HD.out.1.cell (i := 0) rfl; have c1 := HD.out.1.cell (i := 1) rfl)
          | (go_at_call 17; refine (pg_inn t 0 N _ HI.out _).mono ?_; rintro e W2 ⟨rfl, rfl⟩)
          | fail)
        go_ret
        exact ⟨rfl, HD.out.2⟩
    · rw [if_pos h0] at he
      subst he
      have i2 : ¬ (q : Int) = 0 := by omega
      clear h64 h0
      go_enter Try.func30, Try.ntmps30
      go_upto_region 1 with fail
      (try rw [hW0])
      have c0 := HB.out.1.cell (i := 0) rfl
      have c1 := HB.out.1.cell (i := 1) rfl
      clear hW0
      go_wp2_with (first
        | (go_at_call 31; refine (ar_check s h1000 p q HC.out.1 HC.out.2 _).mono ?_; rintro e W1 ⟨rfl, hb1⟩; have HD := Lib.hid (And.intro (HB.out.1.below hb1 HB.out.1.lt) (HB.out.2.trans (hb1.mono HB.out.2.size))); clear hb1 c0 c1; have c0 := HD.out.1.cell (i := 0) rfl; have c1 := HD.out.1.cell (i := 1) rfl)
        | (go_at_call 17; refine (pg_inn t 0 N _ HI.out _).mono ?_; rintro e W2 ⟨rfl, rfl⟩)
        | fail)
      go_ret
      exact ⟨rfl, HD.out.2⟩
/-- An op's box and the result's, one behind the other. -/
def OB (w0 w : World) (cs rs : List Value) : Prop := Blk w w0.heap.size cs 27 ∧ Blk w (w0.heap.size + 1) rs 27 ∧ Below w0.heap.size w0 w
theorem OB.set {w0 w : World} {cs rs : List Value} (h : OB w0 w cs rs) (i : Nat) (v : Value) : OB w0 (w.setCell ⟨w0.heap.size + 1, i, none⟩ v) cs (rs.set i v) :=
  ⟨h.1.other (by omega) i v, h.2.1.set i v, h.2.2.trans (((Chg.refl [w0.heap.size + 1] w).set (Or.inl (by simp)) i v).below h.2.2.size (by simp))⟩
theorem OB.new (w : World) (cs rs : Array Value) : OB w ((w.alloc (.cells cs 27)).alloc (.cells rs 27)) cs.toList rs.toList := by
  have b := Blk.newA (w.alloc (.cells cs 27)) rs 27
  have e : (w.alloc (.cells cs 27)).heap.size = w.heap.size + 1 := by simp
  rw [e] at b
  exact ⟨(Blk.newA w cs 27).alloc _, b, ((Below.refl _ _).alloc (Nat.le_refl _) _).alloc (by simp) _⟩
set_option maxRecDepth 20000 in
set_option maxHeartbeats 4000000 in
theorem pg_own1 (k : Int) (tx : ByteArray) (n to1 : Int) (aa : Option Addr) (al ac : Nat) (ot oe : Int) (hk : k = 1) (w : World) : Calls Try.prog 26 #[.agg #[.int .i64 k, .string tx, .int .i64 n, .int .i64 to1, .slice aa al ac, .int .i64 ot, .int .i64 oe]] w fun r w' => r = .returned (.agg #[.int .i64 k, .string tx, .int .i64 0, .int .i64 0, .slice none 0 0, .int .i64 0, .int .i64 0]) ∧ Below w.heap.size w w' := by
  subst hk
  have H0 := Lib.hid (OB.new w #[.int .i64 1, .string tx, .int .i64 n, .int .i64 to1, .slice aa al ac, .int .i64 ot, .int .i64 oe] #[.int .i64 0, .string ⟨#[]⟩, .int .i64 0, .int .i64 0, .slice none 0 0, .int .i64 0, .int .i64 0])
  go_enter Try.func26, Try.ntmps26
  go_upto_region 1 with fail
  revert H0
  generalize ((w.alloc (.cells #[.int .i64 1, .string tx, .int .i64 n, .int .i64 to1, .slice aa al ac, .int .i64 ot, .int .i64 oe] 27)).alloc (.cells #[.int .i64 0, .string ⟨#[]⟩, .int .i64 0, .int .i64 0, .slice none 0 0, .int .i64 0, .int .i64 0] 27)) = W0
  intro H0
  have c0 := H0.out.1.cell (i := 0) rfl
  have z0 := H0.out.2.1.cell (i := 0) rfl
  have f0 := H0.out.2.1.free 0
  have c1 := H0.out.1.cell (i := 1) rfl
  have z1 := H0.out.2.1.cell (i := 1) rfl
  have f1 := H0.out.2.1.free 1
  have c2 := H0.out.1.cell (i := 2) rfl
  have z2 := H0.out.2.1.cell (i := 2) rfl
  have f2 := H0.out.2.1.free 2
  have c3 := H0.out.1.cell (i := 3) rfl
  have z3 := H0.out.2.1.cell (i := 3) rfl
  have f3 := H0.out.2.1.free 3
  have c4 := H0.out.1.cell (i := 4) rfl
  have z4 := H0.out.2.1.cell (i := 4) rfl
  have f4 := H0.out.2.1.free 4
  have c5 := H0.out.1.cell (i := 5) rfl
  have z5 := H0.out.2.1.cell (i := 5) rfl
  have f5 := H0.out.2.1.free 5
  have c6 := H0.out.1.cell (i := 6) rfl
  have z6 := H0.out.2.1.cell (i := 6) rfl
  have f6 := H0.out.2.1.free 6
  go_wp2_with fail
  have HZ := Lib.hid ((((((((H0.out.set 0 (.int .i64 1)).set 1 (.string tx)).set 2 (.int .i64 0)).set 3 (.int .i64 0)).set 4 (.slice none 0 0)).set 5 (.int .i64 0)).set 6 (.int .i64 0)))
  clear c0 z0 f0 c1 z1 f1 c2 z2 f2 c3 z3 f3 c4 z4 f4 c5 z5 f5 c6 z6 f6
  revert HZ
  generalize (((((((W0.setCell ⟨w.heap.size + 1, 0, none⟩ (.int .i64 1)).setCell ⟨w.heap.size + 1, 1, none⟩ (.string tx)).setCell ⟨w.heap.size + 1, 2, none⟩ (.int .i64 0)).setCell ⟨w.heap.size + 1, 3, none⟩ (.int .i64 0)).setCell ⟨w.heap.size + 1, 4, none⟩ (.slice none 0 0)).setCell ⟨w.heap.size + 1, 5, none⟩ (.int .i64 0)).setCell ⟨w.heap.size + 1, 6, none⟩ (.int .i64 0)) = W9
  intro HZ
  have r0 := HZ.out.2.1.cell (i := 0) rfl
  have r1 := HZ.out.2.1.cell (i := 1) rfl
  have r2 := HZ.out.2.1.cell (i := 2) rfl
  have r3 := HZ.out.2.1.cell (i := 3) rfl
  have r4 := HZ.out.2.1.cell (i := 4) rfl
  have r5 := HZ.out.2.1.cell (i := 5) rfl
  have r6 := HZ.out.2.1.cell (i := 6) rfl
  refine bodyPost_ret (v := .agg #[.int .i64 1, .string tx, .int .i64 0, .int .i64 0, .slice none 0 0, .int .i64 0, .int .i64 0]) (by simp [results, Try.results26, go_sem, r0, r1, r2, r3, r4, r5, r6]) rfl ?_
  exact ⟨rfl, HZ.out.2.2⟩
set_option maxRecDepth 20000 in
set_option maxHeartbeats 4000000 in
theorem pg_own2 (k : Int) (tx : ByteArray) (n to1 : Int) (aa : Option Addr) (al ac : Nat) (ot oe : Int) (hk : k = 2) (w : World) : Calls Try.prog 26 #[.agg #[.int .i64 k, .string tx, .int .i64 n, .int .i64 to1, .slice aa al ac, .int .i64 ot, .int .i64 oe]] w fun r w' => r = .returned (.agg #[.int .i64 k, .string ⟨#[]⟩, .int .i64 n, .int .i64 0, .slice aa al ac, .int .i64 ot, .int .i64 oe]) ∧ Below w.heap.size w w' := by
  subst hk
  have H0 := Lib.hid (OB.new w #[.int .i64 2, .string tx, .int .i64 n, .int .i64 to1, .slice aa al ac, .int .i64 ot, .int .i64 oe] #[.int .i64 0, .string ⟨#[]⟩, .int .i64 0, .int .i64 0, .slice none 0 0, .int .i64 0, .int .i64 0])
  go_enter Try.func26, Try.ntmps26
  go_upto_region 1 with fail
  revert H0
  generalize ((w.alloc (.cells #[.int .i64 2, .string tx, .int .i64 n, .int .i64 to1, .slice aa al ac, .int .i64 ot, .int .i64 oe] 27)).alloc (.cells #[.int .i64 0, .string ⟨#[]⟩, .int .i64 0, .int .i64 0, .slice none 0 0, .int .i64 0, .int .i64 0] 27)) = W0
  intro H0
  have c0 := H0.out.1.cell (i := 0) rfl
  have z0 := H0.out.2.1.cell (i := 0) rfl
  have f0 := H0.out.2.1.free 0
  have c1 := H0.out.1.cell (i := 1) rfl
  have z1 := H0.out.2.1.cell (i := 1) rfl
  have f1 := H0.out.2.1.free 1
  have c2 := H0.out.1.cell (i := 2) rfl
  have z2 := H0.out.2.1.cell (i := 2) rfl
  have f2 := H0.out.2.1.free 2
  have c3 := H0.out.1.cell (i := 3) rfl
  have z3 := H0.out.2.1.cell (i := 3) rfl
  have f3 := H0.out.2.1.free 3
  have c4 := H0.out.1.cell (i := 4) rfl
  have z4 := H0.out.2.1.cell (i := 4) rfl
  have f4 := H0.out.2.1.free 4
  have c5 := H0.out.1.cell (i := 5) rfl
  have z5 := H0.out.2.1.cell (i := 5) rfl
  have f5 := H0.out.2.1.free 5
  have c6 := H0.out.1.cell (i := 6) rfl
  have z6 := H0.out.2.1.cell (i := 6) rfl
  have f6 := H0.out.2.1.free 6
  go_wp2_with fail
  have HZ := Lib.hid ((((((((H0.out.set 0 (.int .i64 2)).set 1 (.string ⟨#[]⟩)).set 2 (.int .i64 n)).set 3 (.int .i64 0)).set 4 (.slice aa al ac)).set 5 (.int .i64 ot)).set 6 (.int .i64 oe)))
  clear c0 z0 f0 c1 z1 f1 c2 z2 f2 c3 z3 f3 c4 z4 f4 c5 z5 f5 c6 z6 f6
  revert HZ
  generalize (((((((W0.setCell ⟨w.heap.size + 1, 0, none⟩ (.int .i64 2)).setCell ⟨w.heap.size + 1, 1, none⟩ (.string ⟨#[]⟩)).setCell ⟨w.heap.size + 1, 2, none⟩ (.int .i64 n)).setCell ⟨w.heap.size + 1, 3, none⟩ (.int .i64 0)).setCell ⟨w.heap.size + 1, 4, none⟩ (.slice aa al ac)).setCell ⟨w.heap.size + 1, 5, none⟩ (.int .i64 ot)).setCell ⟨w.heap.size + 1, 6, none⟩ (.int .i64 oe)) = W9
  intro HZ
  have r0 := HZ.out.2.1.cell (i := 0) rfl
  have r1 := HZ.out.2.1.cell (i := 1) rfl
  have r2 := HZ.out.2.1.cell (i := 2) rfl
  have r3 := HZ.out.2.1.cell (i := 3) rfl
  have r4 := HZ.out.2.1.cell (i := 4) rfl
  have r5 := HZ.out.2.1.cell (i := 5) rfl
  have r6 := HZ.out.2.1.cell (i := 6) rfl
  refine bodyPost_ret (v := .agg #[.int .i64 2, .string ⟨#[]⟩, .int .i64 n, .int .i64 0, .slice aa al ac, .int .i64 ot, .int .i64 oe]) (by simp [results, Try.results26, go_sem, r0, r1, r2, r3, r4, r5, r6]) rfl ?_
  exact ⟨rfl, HZ.out.2.2⟩
set_option maxRecDepth 20000 in
set_option maxHeartbeats 4000000 in
theorem pg_own3 (k : Int) (tx : ByteArray) (n to1 : Int) (aa : Option Addr) (al ac : Nat) (ot oe : Int) (hk : k = 3) (w : World) : Calls Try.prog 26 #[.agg #[.int .i64 k, .string tx, .int .i64 n, .int .i64 to1, .slice aa al ac, .int .i64 ot, .int .i64 oe]] w fun r w' => r = .returned (.agg #[.int .i64 k, .string ⟨#[]⟩, .int .i64 0, .int .i64 to1, .slice none 0 0, .int .i64 0, .int .i64 0]) ∧ Below w.heap.size w w' := by
  subst hk
  have H0 := Lib.hid (OB.new w #[.int .i64 3, .string tx, .int .i64 n, .int .i64 to1, .slice aa al ac, .int .i64 ot, .int .i64 oe] #[.int .i64 0, .string ⟨#[]⟩, .int .i64 0, .int .i64 0, .slice none 0 0, .int .i64 0, .int .i64 0])
  go_enter Try.func26, Try.ntmps26
  go_upto_region 1 with fail
  revert H0
  generalize ((w.alloc (.cells #[.int .i64 3, .string tx, .int .i64 n, .int .i64 to1, .slice aa al ac, .int .i64 ot, .int .i64 oe] 27)).alloc (.cells #[.int .i64 0, .string ⟨#[]⟩, .int .i64 0, .int .i64 0, .slice none 0 0, .int .i64 0, .int .i64 0] 27)) = W0
  intro H0
  have c0 := H0.out.1.cell (i := 0) rfl
  have z0 := H0.out.2.1.cell (i := 0) rfl
  have f0 := H0.out.2.1.free 0
  have c1 := H0.out.1.cell (i := 1) rfl
  have z1 := H0.out.2.1.cell (i := 1) rfl
  have f1 := H0.out.2.1.free 1
  have c2 := H0.out.1.cell (i := 2) rfl
  have z2 := H0.out.2.1.cell (i := 2) rfl
  have f2 := H0.out.2.1.free 2
  have c3 := H0.out.1.cell (i := 3) rfl
  have z3 := H0.out.2.1.cell (i := 3) rfl
  have f3 := H0.out.2.1.free 3
  have c4 := H0.out.1.cell (i := 4) rfl
  have z4 := H0.out.2.1.cell (i := 4) rfl
  have f4 := H0.out.2.1.free 4
  have c5 := H0.out.1.cell (i := 5) rfl
  have z5 := H0.out.2.1.cell (i := 5) rfl
  have f5 := H0.out.2.1.free 5
  have c6 := H0.out.1.cell (i := 6) rfl
  have z6 := H0.out.2.1.cell (i := 6) rfl
  have f6 := H0.out.2.1.free 6
  go_wp2_with fail
  have HZ := Lib.hid ((((((((H0.out.set 0 (.int .i64 3)).set 1 (.string ⟨#[]⟩)).set 2 (.int .i64 0)).set 3 (.int .i64 to1)).set 4 (.slice none 0 0)).set 5 (.int .i64 0)).set 6 (.int .i64 0)))
  clear c0 z0 f0 c1 z1 f1 c2 z2 f2 c3 z3 f3 c4 z4 f4 c5 z5 f5 c6 z6 f6
  revert HZ
  generalize (((((((W0.setCell ⟨w.heap.size + 1, 0, none⟩ (.int .i64 3)).setCell ⟨w.heap.size + 1, 1, none⟩ (.string ⟨#[]⟩)).setCell ⟨w.heap.size + 1, 2, none⟩ (.int .i64 0)).setCell ⟨w.heap.size + 1, 3, none⟩ (.int .i64 to1)).setCell ⟨w.heap.size + 1, 4, none⟩ (.slice none 0 0)).setCell ⟨w.heap.size + 1, 5, none⟩ (.int .i64 0)).setCell ⟨w.heap.size + 1, 6, none⟩ (.int .i64 0)) = W9
  intro HZ
  have r0 := HZ.out.2.1.cell (i := 0) rfl
  have r1 := HZ.out.2.1.cell (i := 1) rfl
  have r2 := HZ.out.2.1.cell (i := 2) rfl
  have r3 := HZ.out.2.1.cell (i := 3) rfl
  have r4 := HZ.out.2.1.cell (i := 4) rfl
  have r5 := HZ.out.2.1.cell (i := 5) rfl
  have r6 := HZ.out.2.1.cell (i := 6) rfl
  refine bodyPost_ret (v := .agg #[.int .i64 3, .string ⟨#[]⟩, .int .i64 0, .int .i64 to1, .slice none 0 0, .int .i64 0, .int .i64 0]) (by simp [results, Try.results26, go_sem, r0, r1, r2, r3, r4, r5, r6]) rfl ?_
  exact ⟨rfl, HZ.out.2.2⟩
set_option maxRecDepth 20000 in
set_option maxHeartbeats 4000000 in
theorem pg_own4 (k : Int) (tx : ByteArray) (n to1 : Int) (aa : Option Addr) (al ac : Nat) (ot oe : Int) (hk : k = 4) (w : World) : Calls Try.prog 26 #[.agg #[.int .i64 k, .string tx, .int .i64 n, .int .i64 to1, .slice aa al ac, .int .i64 ot, .int .i64 oe]] w fun r w' => r = .returned (.agg #[.int .i64 k, .string ⟨#[]⟩, .int .i64 n, .int .i64 0, .slice none 0 0, .int .i64 0, .int .i64 0]) ∧ Below w.heap.size w w' := by
  subst hk
  have H0 := Lib.hid (OB.new w #[.int .i64 4, .string tx, .int .i64 n, .int .i64 to1, .slice aa al ac, .int .i64 ot, .int .i64 oe] #[.int .i64 0, .string ⟨#[]⟩, .int .i64 0, .int .i64 0, .slice none 0 0, .int .i64 0, .int .i64 0])
  go_enter Try.func26, Try.ntmps26
  go_upto_region 1 with fail
  revert H0
  generalize ((w.alloc (.cells #[.int .i64 4, .string tx, .int .i64 n, .int .i64 to1, .slice aa al ac, .int .i64 ot, .int .i64 oe] 27)).alloc (.cells #[.int .i64 0, .string ⟨#[]⟩, .int .i64 0, .int .i64 0, .slice none 0 0, .int .i64 0, .int .i64 0] 27)) = W0
  intro H0
  have c0 := H0.out.1.cell (i := 0) rfl
  have z0 := H0.out.2.1.cell (i := 0) rfl
  have f0 := H0.out.2.1.free 0
  have c1 := H0.out.1.cell (i := 1) rfl
  have z1 := H0.out.2.1.cell (i := 1) rfl
  have f1 := H0.out.2.1.free 1
  have c2 := H0.out.1.cell (i := 2) rfl
  have z2 := H0.out.2.1.cell (i := 2) rfl
  have f2 := H0.out.2.1.free 2
  have c3 := H0.out.1.cell (i := 3) rfl
  have z3 := H0.out.2.1.cell (i := 3) rfl
  have f3 := H0.out.2.1.free 3
  have c4 := H0.out.1.cell (i := 4) rfl
  have z4 := H0.out.2.1.cell (i := 4) rfl
  have f4 := H0.out.2.1.free 4
  have c5 := H0.out.1.cell (i := 5) rfl
  have z5 := H0.out.2.1.cell (i := 5) rfl
  have f5 := H0.out.2.1.free 5
  have c6 := H0.out.1.cell (i := 6) rfl
  have z6 := H0.out.2.1.cell (i := 6) rfl
  have f6 := H0.out.2.1.free 6
  go_wp2_with fail
  have HZ := Lib.hid ((((((((H0.out.set 0 (.int .i64 4)).set 1 (.string ⟨#[]⟩)).set 2 (.int .i64 n)).set 3 (.int .i64 0)).set 4 (.slice none 0 0)).set 5 (.int .i64 0)).set 6 (.int .i64 0)))
  clear c0 z0 f0 c1 z1 f1 c2 z2 f2 c3 z3 f3 c4 z4 f4 c5 z5 f5 c6 z6 f6
  revert HZ
  generalize (((((((W0.setCell ⟨w.heap.size + 1, 0, none⟩ (.int .i64 4)).setCell ⟨w.heap.size + 1, 1, none⟩ (.string ⟨#[]⟩)).setCell ⟨w.heap.size + 1, 2, none⟩ (.int .i64 n)).setCell ⟨w.heap.size + 1, 3, none⟩ (.int .i64 0)).setCell ⟨w.heap.size + 1, 4, none⟩ (.slice none 0 0)).setCell ⟨w.heap.size + 1, 5, none⟩ (.int .i64 0)).setCell ⟨w.heap.size + 1, 6, none⟩ (.int .i64 0)) = W9
  intro HZ
  have r0 := HZ.out.2.1.cell (i := 0) rfl
  have r1 := HZ.out.2.1.cell (i := 1) rfl
  have r2 := HZ.out.2.1.cell (i := 2) rfl
  have r3 := HZ.out.2.1.cell (i := 3) rfl
  have r4 := HZ.out.2.1.cell (i := 4) rfl
  have r5 := HZ.out.2.1.cell (i := 5) rfl
  have r6 := HZ.out.2.1.cell (i := 6) rfl
  refine bodyPost_ret (v := .agg #[.int .i64 4, .string ⟨#[]⟩, .int .i64 n, .int .i64 0, .slice none 0 0, .int .i64 0, .int .i64 0]) (by simp [results, Try.results26, go_sem, r0, r1, r2, r3, r4, r5, r6]) rfl ?_
  exact ⟨rfl, HZ.out.2.2⟩
set_option maxRecDepth 20000 in
set_option maxHeartbeats 4000000 in
theorem pg_own5 (k : Int) (tx : ByteArray) (n to1 : Int) (aa : Option Addr) (al ac : Nat) (ot oe : Int) (h1 : ¬ k = 1) (h2 : ¬ k = 2) (h3 : ¬ k = 3) (h4 : ¬ k = 4) (w : World) : Calls Try.prog 26 #[.agg #[.int .i64 k, .string tx, .int .i64 n, .int .i64 to1, .slice aa al ac, .int .i64 ot, .int .i64 oe]] w fun r w' => r = .returned (.agg #[.int .i64 k, .string ⟨#[]⟩, .int .i64 0, .int .i64 0, .slice none 0 0, .int .i64 0, .int .i64 0]) ∧ Below w.heap.size w w' := by
  have g1 : (k == 1) = false := by simpa using h1
  have g2 : (k == 2) = false := by simpa using h2
  have g3 : (k == 3) = false := by simpa using h3
  have g4 : (k == 4) = false := by simpa using h4
  clear h1 h2 h3 h4
  have H0 := Lib.hid (OB.new w #[.int .i64 k, .string tx, .int .i64 n, .int .i64 to1, .slice aa al ac, .int .i64 ot, .int .i64 oe] #[.int .i64 0, .string ⟨#[]⟩, .int .i64 0, .int .i64 0, .slice none 0 0, .int .i64 0, .int .i64 0])
  go_enter Try.func26, Try.ntmps26
  go_upto_region 1 with fail
  revert H0
  generalize ((w.alloc (.cells #[.int .i64 k, .string tx, .int .i64 n, .int .i64 to1, .slice aa al ac, .int .i64 ot, .int .i64 oe] 27)).alloc (.cells #[.int .i64 0, .string ⟨#[]⟩, .int .i64 0, .int .i64 0, .slice none 0 0, .int .i64 0, .int .i64 0] 27)) = W0
  intro H0
  have c0 := H0.out.1.cell (i := 0) rfl
  have z0 := H0.out.2.1.cell (i := 0) rfl
  have f0 := H0.out.2.1.free 0
  have c1 := H0.out.1.cell (i := 1) rfl
  have z1 := H0.out.2.1.cell (i := 1) rfl
  have f1 := H0.out.2.1.free 1
  have c2 := H0.out.1.cell (i := 2) rfl
  have z2 := H0.out.2.1.cell (i := 2) rfl
  have f2 := H0.out.2.1.free 2
  have c3 := H0.out.1.cell (i := 3) rfl
  have z3 := H0.out.2.1.cell (i := 3) rfl
  have f3 := H0.out.2.1.free 3
  have c4 := H0.out.1.cell (i := 4) rfl
  have z4 := H0.out.2.1.cell (i := 4) rfl
  have f4 := H0.out.2.1.free 4
  have c5 := H0.out.1.cell (i := 5) rfl
  have z5 := H0.out.2.1.cell (i := 5) rfl
  have f5 := H0.out.2.1.free 5
  have c6 := H0.out.1.cell (i := 6) rfl
  have z6 := H0.out.2.1.cell (i := 6) rfl
  have f6 := H0.out.2.1.free 6
  go_wp2_with fail
  have HZ := Lib.hid ((((((((H0.out.set 0 (.int .i64 k)).set 1 (.string ⟨#[]⟩)).set 2 (.int .i64 0)).set 3 (.int .i64 0)).set 4 (.slice none 0 0)).set 5 (.int .i64 0)).set 6 (.int .i64 0)))
  clear c0 z0 f0 c1 z1 f1 c2 z2 f2 c3 z3 f3 c4 z4 f4 c5 z5 f5 c6 z6 f6
  revert HZ
  generalize (((((((W0.setCell ⟨w.heap.size + 1, 0, none⟩ (.int .i64 k)).setCell ⟨w.heap.size + 1, 1, none⟩ (.string ⟨#[]⟩)).setCell ⟨w.heap.size + 1, 2, none⟩ (.int .i64 0)).setCell ⟨w.heap.size + 1, 3, none⟩ (.int .i64 0)).setCell ⟨w.heap.size + 1, 4, none⟩ (.slice none 0 0)).setCell ⟨w.heap.size + 1, 5, none⟩ (.int .i64 0)).setCell ⟨w.heap.size + 1, 6, none⟩ (.int .i64 0)) = W9
  intro HZ
  have r0 := HZ.out.2.1.cell (i := 0) rfl
  have r1 := HZ.out.2.1.cell (i := 1) rfl
  have r2 := HZ.out.2.1.cell (i := 2) rfl
  have r3 := HZ.out.2.1.cell (i := 3) rfl
  have r4 := HZ.out.2.1.cell (i := 4) rfl
  have r5 := HZ.out.2.1.cell (i := 5) rfl
  have r6 := HZ.out.2.1.cell (i := 6) rfl
  refine bodyPost_ret (v := .agg #[.int .i64 k, .string ⟨#[]⟩, .int .i64 0, .int .i64 0, .slice none 0 0, .int .i64 0, .int .i64 0]) (by simp [results, Try.results26, go_sem, r0, r1, r2, r3, r4, r5, r6]) rfl ?_
  exact ⟨rfl, HZ.out.2.2⟩
end Go.Proofs.Ytoniipmgkoogbaa
