/- Several texts in one. -/
import Derived.Test.YtbdjcppkfihonaaArC
import Derived.WalkKit
import Derived.ProofKit
import Derived.Handy
import Derived.WalkLawsBesides
import Derived.WalkSpells
import Derived.Lib.Hide
import Derived.RegionTactic
import Derived.ChangeAlike
import Derived.WalkSmall
import Derived.Deep.QuietTactic
import Derived.BigQuiet
import Derived.OwnWalk
import Derived.Outline
import Derived.Deep.CutRange
import Derived.Deep.CutBlock
import Derived.LoopTactic
import Derived.Test.YtbdjcppkfihonaaRv
import Derived.Test.YtbdjcppkfihonaaRgA
import Derived.Lib.BufferRead
import Derived.Deep.RegionLaw
/- Hold: a look, as a function (no program). -/
namespace Go.Proofs.Ytbdjcppkfihonaa
open Go.ChangeShapes Go.WideShapes Go.ChangeAt Go.RowKit
set_option linter.unusedSimpArgs false
set_option linter.unusedVariables false

/-- What a look comes to: the text, how much of it was looked at, what is left of the ring, and what was found: match, full, arm, gone, read. -/
structure Hd.R where
  S : List UInt8
  K : Nat
  Q : List UInt8
  hit : Bool
  full : Bool
  arm : Nat
  gone : Nat
  rd : Nat
/-- The byte at K is looked at: is a pattern told, and which one? -/
def Hd.at (Ls : List (List (Bool × BitVec 256))) (S : List UInt8) (K : Nat) : Nat × Bool := Ar.fs (Ar.dn Ls (Ar.stk Ls (lgT S) (K + 1))) Ls.length
/-- A look, by as many steps as there are bytes. -/
def Hd.look (Ls : List (List (Bool × BitVec 256))) (win : Nat) : Nat → List UInt8 → Nat → List UInt8 → Nat → Hd.R
  | 0, S, K, Q, rd => ⟨S, K, Q, false, false, 0, 0, rd⟩
  | f + 1, S, K, Q, rd =>
    if K < S.length then
      if (Hd.at Ls S K).2 then ⟨S.drop (K + 1), 0, Q, true, false, (Hd.at Ls S K).1, K + 1, rd⟩ else Hd.look Ls win f S (K + 1) Q rd
    else match Q with
      | [] => ⟨S, K, [], false, false, 0, 0, rd⟩
      | b :: Q' =>
        if win ≤ S.length then ⟨S, K, b :: Q', false, true, 0, 0, rd⟩
        else if (Hd.at Ls (S ++ [b]) K).2 then ⟨(S ++ [b]).drop (K + 1), 0, Q', true, false, (Hd.at Ls (S ++ [b]) K).1, K + 1, rd + 1⟩
        else Hd.look Ls win f (S ++ [b]) (K + 1) Q' (rd + 1)
/-- The step at hand, in the order of what the program does: no fresh byte, or one. -/
theorem look_end {Ls : List (List (Bool × BitVec 256))} {win : Nat} {S : List UInt8} {K rd : Nat} (h : ¬ K < S.length) : ∀ f, Hd.look Ls win f S K [] rd = ⟨S, K, [], false, false, 0, 0, rd⟩
  | 0 => rfl
  | f + 1 => by rw [Hd.look, if_neg h]
theorem look_full {Ls : List (List (Bool × BitVec 256))} {win : Nat} {S Q : List UInt8} {b : UInt8} {K rd f : Nat} (h : ¬ K < S.length) (hw : win ≤ S.length) : Hd.look Ls win (f + 1) S K (b :: Q) rd = ⟨S, K, b :: Q, false, true, 0, 0, rd⟩ := by
  rw [Hd.look, if_neg h]
  simp only [if_pos hw]
/-- A byte comes from the ring. -/
theorem look_read {Ls : List (List (Bool × BitVec 256))} {win : Nat} {S Q : List UInt8} {b : UInt8} {K rd f : Nat} (h : ¬ K < S.length) (hK : K = S.length) (hw : ¬ win ≤ S.length) : Hd.look Ls win (f + 1) S K (b :: Q) rd = Hd.look Ls win (f + 1) (S ++ [b]) K Q (rd + 1) := by
  have h2 : K < (S ++ [b]).length := by rw [List.length_append]; simp; omega
  cases Q <;> simp only [Hd.look, if_neg h, if_neg hw, if_pos h2]
theorem look_hit {Ls : List (List (Bool × BitVec 256))} {win : Nat} {S Q : List UInt8} {K rd f q : Nat} (h : K < S.length) (ha : Hd.at Ls S K = (q, true)) : Hd.look Ls win (f + 1) S K Q rd = ⟨S.drop (K + 1), 0, Q, true, false, q, K + 1, rd⟩ := by
  cases Q <;> simp only [Hd.look, if_pos h, ha] <;> rfl
theorem look_on {Ls : List (List (Bool × BitVec 256))} {win : Nat} {S Q : List UInt8} {K rd f q : Nat} (h : K < S.length) (ha : Hd.at Ls S K = (q, false)) : Hd.look Ls win (f + 1) S K Q rd = Hd.look Ls win f S (K + 1) Q rd := by
  cases Q <;> simp only [Hd.look, if_pos h, ha] <;> rfl
theorem lgT_snoc (S : List UInt8) (b : UInt8) {k : Nat} (h : k < S.length) : lgT (S ++ [b]) k = lgT S k := by
  unfold lgT
  rw [List.getElem?_append_left h]
theorem stk_congr {Ls : List (List (Bool × BitVec 256))} {T U : LgT} : ∀ k, (∀ j, j < k → T j = U j) → Ar.stk Ls T k = Ar.stk Ls U k
  | 0, _ => rfl
  | k + 1, h => by
    rw [Ar.stk, Ar.stk, stk_congr k fun j hj => h j (by omega), h k (by omega)]
theorem stk_snoc {Ls : List (List (Bool × BitVec 256))} (S : List UInt8) (b : UInt8) {k : Nat} (h : k ≤ S.length) : Ar.stk Ls (lgT (S ++ [b])) k = Ar.stk Ls (lgT S) k := stk_congr k fun j hj => lgT_snoc S b (by omega)
end Go.Proofs.Ytbdjcppkfihonaa
/- Hold: the patterns' states, kept. -/
namespace Go.Proofs.Ytbdjcppkfihonaa
open Go.ChangeShapes Go.WideShapes Go.ChangeAt Go.RowKit
set_option linter.unusedSimpArgs false
set_option linter.unusedVariables false

/-- Block b of another type than those of patterns. -/
def OT (w : World) (b : Nat) : Prop := ∀ T, (T = 136 ∨ T = 138 ∨ T = 137 ∨ T = 150) → ∀ cs, ¬ Blk w b cs T
theorem OT.of {w : World} {b : Nat} {cs : List Value} {U : TypeId} (h : Blk w b cs U) (hU : U ≠ 136 ∧ U ≠ 138 ∧ U ≠ 137 ∧ U ≠ 150) : OT w b := by
  intro T hT cs2 h2
  have e : U = T := by
    unfold Blk at h h2
    rw [h] at h2
    have := Option.some.inj h2
    injection this with a b
  subst e
  rcases hT with e | e | e | e <;> simp [e] at hU
theorem OT.of_rw {w : World} {b c : Nat} {cs : List Value} {U : TypeId} (h : Rw w b c cs U) (hU : U ≠ 136 ∧ U ≠ 138 ∧ U ≠ 137 ∧ U ≠ 150) : OT w b := by
  obtain ⟨r, _, _, h⟩ := h; exact OT.of h hU
theorem OT.new {w : World} {b : Nat} (h : w.heap.size ≤ b) : OT w b := by
  intro T _ cs h2
  have := h2.lt
  omega
/-- Patterns and their states, with the row of their tables. -/
def AS (w : World) (x gs cs : Nat) (a : Option Addr) (ca : Nat) (A : List (List (Bool × BitVec 256) × Nat)) (n : Nat) (f : Nat → BitVec 64) (fed : Nat) : Prop := AR w x gs cs a ca A n f fed ∧ (0 < n → ∃ g0, a = some ⟨g0, 0, none⟩ ∧ Rw w g0 ca (A.map (fun y : List (Bool × BitVec 256) × Nat => Value.pointer (some ⟨y.2, 0, none⟩))) 137)
theorem AS.chg {w w' : World} {x gs cs ca n fed : Nat} {a : Option Addr} {A : List (List (Bool × BitVec 256) × Nat)} {f : Nat → BitVec 64} (h : AS w x gs cs a ca A n f fed) {l : List Nat} (k : Chg l w w') (hl : ∀ b ∈ l, OT w b) : AS w' x gs cs a ca A n f fed := by
  obtain ⟨⟨h1, ⟨b, h2, h3⟩, h4, h5, h6⟩, h7⟩ := h
  have hx : x ∉ l := fun e => hl x e _ (Or.inl rfl) _ h3
  refine ⟨⟨h1, ⟨b, h2, h3.chg k hx⟩, fun hn => ?_, fun i l2 p hi => ?_, h6⟩, fun hn => ?_⟩
  · refine (h4 hn).chg k fun e => ?_
    obtain ⟨r, _, _, q⟩ := h4 hn
    exact hl gs e _ (Or.inr (Or.inl rfl)) _ q
  · have hn : 0 < n := by have := (List.getElem?_eq_some_iff.1 hi).1; omega
    obtain ⟨g0, e0, q0⟩ := h7 hn
    obtain ⟨g, o, e1, z1, z2, z3, z4, z5, z6⟩ := h5 i l2 p hi
    rw [e0] at e1
    injection e1 with e1; injection e1 with e1 e1b
    subst e1; subst e1b
    have hg : g0 ∉ l := fun e => by
      obtain ⟨r, _, _, q⟩ := q0
      exact hl g0 e _ (Or.inr (Or.inr (Or.inl rfl))) _ q
    have hp : p ∉ l := fun e => hl p e _ (Or.inr (Or.inr (Or.inr rfl))) _ z6
    exact ⟨g0, 0, e0, Nat.lt_of_lt_of_le z1 k.size, z2, z3, z4, (k.cell (p := ⟨g0, 0 + i, none⟩) z1 hg).trans z5, Blk.chg z6 k hp⟩
  · obtain ⟨g0, e0, q0⟩ := h7 hn
    refine ⟨g0, e0, q0.chg k fun e => ?_⟩
    obtain ⟨r, _, _, q⟩ := q0
    exact hl g0 e _ (Or.inr (Or.inr (Or.inl rfl))) _ q
theorem AS.below {w w' : World} {x gs cs ca n fed : Nat} {a : Option Addr} {A : List (List (Bool × BitVec 256) × Nat)} {f : Nat → BitVec 64} (h : AS w x gs cs a ca A n f fed) (k : Below w.heap.size w w') : AS w' x gs cs a ca A n f fed := h.chg (Chg.of_fresh (l := []) k) (by simp)
/-- Behind a call of the patterns themselves. -/
theorem AS.fed {w w' : World} {x gs cs ca n fed fed2 : Nat} {a : Option Addr} {A : List (List (Bool × BitVec 256) × Nat)} {f f2 : Nat → BitVec 64} (h : AS w x gs cs a ca A n f fed) (q : AR w' x gs cs a ca A n f2 fed2) (k : Chg [x, gs] w w') : AS w' x gs cs a ca A n f2 fed2 := by
  refine ⟨q, fun hn => ?_⟩
  obtain ⟨g0, e0, q0⟩ := h.2 hn
  refine ⟨g0, e0, q0.chg k fun e => ?_⟩
  obtain ⟨r, _, _, q1⟩ := q0
  obtain ⟨⟨h1, ⟨b, h2, h3⟩, h4, h5, h6⟩, h7⟩ := h
  simp at e
  rcases e with rfl | rfl
  · unfold Blk at q1 h3
    rw [q1] at h3
    have := Option.some.inj h3
    injection this with _ hT _
    exact absurd hT (by decide)
  · obtain ⟨r2, _, _, q2⟩ := h4 hn
    unfold Blk at q1 q2
    rw [q1] at q2
    have := Option.some.inj q2
    injection this with _ hT _
    exact absurd hT (by decide)
set_option maxRecDepth 20000 in
set_option maxHeartbeats 4000000 in
/-- No patterns: a feed tells nothing. -/
theorem ar_feed0 (x gs cs ca fed : Nat) (a : Option Addr) (f f2 : Nat → BitVec 64) (b : Int) (hfed : fed ≤ 1000000) (w : World) (h : AR w x gs cs a ca [] 0 f fed) :
    Calls Try.prog 63 #[.pointer (some ⟨x, 0, none⟩), .int .u8 b] w fun e w' => e = .returned (.tuple #[.int .i64 0, .bool false]) ∧ AR w' x gs cs a ca [] 0 f2 (fed + 1) ∧ Chg [x] w w' := by
  obtain ⟨_, ⟨b0, _, hB⟩, _, _, h6⟩ := h
  have c0 := hB.cell (i := 0) rfl
  have c2 := hB.cell (i := 2) rfl
  have f2' := hB.free 2
  have w1 : IntKind.i64.wrap ((fed : Int) + 1) = (fed : Int) + 1 := IntWalk.i64_in _ (by omega)
  have HB : Hid (Blk (w.setCell ⟨x, 2, none⟩ (.int .i64 ((fed : Int) + 1))) x [.slice a 0 ca, .slice b0 0 cs, .int .i64 ((fed : Int) + 1)] 136 ∧ Chg [x] w (w.setCell ⟨x, 2, none⟩ (.int .i64 ((fed : Int) + 1)))) := Lib.hid ⟨hB.set 2 _, (Chg.refl [x] w).set (Or.inl (by simp)) _ _⟩
  have H6 := Lib.hid h6
  clear h6
  go_enter Try.func63, Try.ntmps63
  go_wp2_with fail
  revert HB
  generalize (w.setCell ⟨x, 2, none⟩ (.int .i64 ((fed : Int) + 1))) = W1
  intro HB
  clear c0 c2 f2' hB
  have c0 := HB.out.1.cell (i := 0) rfl
  go_wp2_with fail
  go_loopw [6, 7, 24] (fun fv ov iv wr => fv = .int .i64 0 ∧ ov = .bool false ∧ iv = .int .i64 0 ∧ W1 = wr) (fun _ _ _ _ => 0)
  case atStart => exact ⟨rfl, rfl, rfl, rfl⟩
  case round =>
    obtain ⟨rfl, rfl, rfl, rfl⟩ := hrel
    go_wp2
    go_ret2
    exact ⟨rfl, ⟨rfl, ⟨b0, fun h => by omega, HB.out.1⟩, fun h => by omega, fun i l p h => by simp at h, H6.out⟩, HB.out.2⟩
set_option maxRecDepth 20000 in
set_option maxHeartbeats 4000000 in
theorem ar_reset0 (x gs cs ca fed : Nat) (a : Option Addr) (f f2 : Nat → BitVec 64) (w : World) (h : AR w x gs cs a ca [] 0 f fed) :
    Calls Try.prog 81 #[.pointer (some ⟨x, 0, none⟩)] w fun e w' => e = .returned (.tuple #[]) ∧ AR w' x gs cs a ca [] 0 f2 0 ∧ Chg [x] w w' := by
  obtain ⟨_, ⟨b0, _, hB⟩, _, _, h6⟩ := h
  have c0 := hB.cell (i := 0) rfl
  have c2 := hB.cell (i := 2) rfl
  have f2' := hB.free 2
  have HB : Hid (Blk (w.setCell ⟨x, 2, none⟩ (.int .i64 0)) x [.slice a 0 ca, .slice b0 0 cs, .int .i64 0] 136 ∧ Chg [x] w (w.setCell ⟨x, 2, none⟩ (.int .i64 0))) := Lib.hid ⟨hB.set 2 _, (Chg.refl [x] w).set (Or.inl (by simp)) _ _⟩
  have H6 := Lib.hid h6
  clear h6
  go_enter Try.func81, Try.ntmps81
  go_wp2_with fail
  revert HB
  generalize (w.setCell ⟨x, 2, none⟩ (.int .i64 0)) = W1
  intro HB
  clear c0 c2 f2' hB
  have c0 := HB.out.1.cell (i := 0) rfl
  go_wp2_with fail
  go_loopw [14] (fun iv wr => iv = .int .i64 0 ∧ W1 = wr) (fun _ _ => 0)
  case atStart => exact ⟨rfl, rfl⟩
  case round =>
    obtain ⟨rfl, rfl⟩ := hrel
    go_wp2
    go_end0
    exact ⟨rfl, ⟨rfl, ⟨b0, fun h => by omega, HB.out.1⟩, fun h => by omega, fun i l p h => by simp at h, H6.out⟩, HB.out.2⟩
/-- The blocks that a feed changes. -/
def axB (x gs n : Nat) : List Nat := if n = 0 then [x] else [x, gs]
/-- The patterns of a window, if there are any: the pointer, the blocks that a feed changes, what they are, their states. -/
def AX (w : World) (ap : Option Addr) (xs : List Nat) (Ls : List (List (Bool × BitVec 256))) (f : Nat → BitVec 64) (fed : Nat) : Prop := (ap = none ∧ Ls = [] ∧ xs = []) ∨ ∃ x gs cs b ca A n, ap = some ⟨x, 0, none⟩ ∧ xs = axB x gs n ∧ AS w x gs cs b ca A n f fed ∧ A.map Prod.fst = Ls ∧ n = Ls.length ∧ n ≤ 8
theorem AX.chg {w w' : World} {ap : Option Addr} {xs : List Nat} {Ls : List (List (Bool × BitVec 256))} {f : Nat → BitVec 64} {fed : Nat} (h : AX w ap xs Ls f fed) {l : List Nat} (k : Chg l w w') (hl : ∀ b ∈ l, OT w b) : AX w' ap xs Ls f fed := by
  rcases h with h | ⟨x, gs, cs, b, ca, A, n, h1, h2, h3, h4⟩
  · exact Or.inl h
  · exact Or.inr ⟨x, gs, cs, b, ca, A, n, h1, h2, h3.chg k hl, h4⟩
theorem AX.below {w w' : World} {ap : Option Addr} {xs : List Nat} {Ls : List (List (Bool × BitVec 256))} {f : Nat → BitVec 64} {fed : Nat} (h : AX w ap xs Ls f fed) (k : Below w.heap.size w w') : AX w' ap xs Ls f fed := h.chg (Chg.of_fresh (l := []) k) (by simp)
/-- What a feed changes is of the patterns' types. -/
theorem AX.xs {w : World} {ap : Option Addr} {xs : List Nat} {Ls : List (List (Bool × BitVec 256))} {f : Nat → BitVec 64} {fed : Nat} (h : AX w ap xs Ls f fed) {b : Nat} (hb : OT w b) : b ∉ xs := by
  rcases h with ⟨_, _, h⟩ | ⟨x, gs, cs, c, ca, A, n, h1, h2, h3, h4, h5, h6⟩
  · rw [h]; simp
  · rw [h2]
    obtain ⟨⟨q1, ⟨b2, q2, q3⟩, q4, q5, q6⟩, q7⟩ := h3
    unfold axB
    rcases Nat.eq_zero_or_pos n with hz | hz
    · rw [if_pos hz]
      intro e
      simp at e
      subst e
      exact hb _ (Or.inl rfl) _ q3
    · rw [if_neg (by omega)]
      intro e
      simp at e
      rcases e with rfl | rfl
      · exact hb _ (Or.inl rfl) _ q3
      · obtain ⟨r, _, _, q⟩ := q4 hz
        exact hb _ (Or.inr (Or.inl rfl)) _ q
theorem AX.lt {w : World} {ap : Option Addr} {xs : List Nat} {Ls : List (List (Bool × BitVec 256))} {f : Nat → BitVec 64} {fed : Nat} (h : AX w ap xs Ls f fed) : ∀ b ∈ xs, b < w.heap.size := by
  intro b hb
  rcases h with ⟨_, _, h⟩ | ⟨x, gs, cs, c, ca, A, n, h1, h2, h3, h4, h5, h6⟩
  · rw [h] at hb; simp at hb
  · rw [h2] at hb
    obtain ⟨⟨q1, ⟨b2, q2, q3⟩, q4, q5, q6⟩, q7⟩ := h3
    unfold axB at hb
    rcases Nat.eq_zero_or_pos n with hz | hz
    · rw [if_pos hz] at hb
      simp at hb
      subst hb
      exact q3.lt
    · rw [if_neg (by omega)] at hb
      simp at hb
      rcases hb with rfl | rfl
      · exact q3.lt
      · exact (q4 hz).lt
set_option maxRecDepth 20000 in
/-- A byte is fed. -/
theorem ax_feed {w : World} {ap : Option Addr} {xs : List Nat} {Ls : List (List (Bool × BitVec 256))} {f st : Nat → BitVec 64} {fed : Nat} (h : AX w ap xs Ls f fed) (b : Nat) (hb : b < 256) (bi : Int) (hbi : bi = b) (hst : Ar.stp Ls b f = st) (hfed : fed ≤ 1000000) (r : Nat) (ok : Bool) (hr : Ar.fs (Ar.dn Ls st) Ls.length = (r, ok)) :
    Calls Try.prog 63 #[.pointer ap, .int .u8 bi] w fun e w' => e = .returned (.tuple #[.int .i64 r, .bool ok]) ∧ AX w' ap xs Ls st (fed + 1) ∧ Chg xs w w' := by
  rcases h with ⟨rfl, rfl, rfl⟩ | ⟨x, gs, cs, c, ca, A, n, rfl, rfl, h3, h4, rfl, h6⟩
  · refine (ar_feed_nil bi w).mono fun e w' h => ?_
    have : (r, ok) = (0, false) := by rw [← hr]; rfl
    injection this with h1 h2
    subst h1; subst h2
    exact ⟨h.1, Or.inl ⟨rfl, rfl, rfl⟩, Chg.of_fresh h.2⟩
  · rcases Nat.eq_zero_or_pos Ls.length with hz | hz
    · have hL : Ls = [] := List.length_eq_zero_iff.1 hz
      subst hL
      have hA : A = [] := List.map_eq_nil_iff.1 h4
      subst hA
      refine (ar_feed0 x gs cs ca fed c f st bi hfed w h3.1).mono fun e w' h => ?_
      have : (r, ok) = (0, false) := by rw [← hr]; rfl
      injection this with h1 h2
      subst h1; subst h2
      exact ⟨h.1, Or.inr ⟨x, gs, cs, c, ca, [], 0, rfl, rfl, h3.fed h.2.1 (h.2.2.mono (by simp)), rfl, rfl, h6⟩, h.2.2⟩
    · refine (ar_feed3 Ls x gs cs ca _ fed c A h4 f st b hb bi hbi hst (by omega) hfed r ok hr _ rfl _ rfl w h3.1).mono fun e w' h => ?_
      exact ⟨h.1, Or.inr ⟨x, gs, cs, c, ca, A, _, rfl, rfl, h3.fed h.2.1 h.2.2, h4, rfl, h6⟩, by unfold axB; rw [if_neg (by omega)]; exact h.2.2⟩
set_option maxRecDepth 20000 in
/-- All begins anew. -/
theorem ax_reset {w : World} {ap : Option Addr} {xs : List Nat} {Ls : List (List (Bool × BitVec 256))} {f : Nat → BitVec 64} {fed : Nat} (h : AX w ap xs Ls f fed) :
    Calls Try.prog 81 #[.pointer ap] w fun e w' => e = .returned (.tuple #[]) ∧ AX w' ap xs Ls (Ar.st0 Ls) 0 ∧ Chg xs w w' := by
  rcases h with ⟨rfl, rfl, rfl⟩ | ⟨x, gs, cs, c, ca, A, n, rfl, rfl, h3, h4, rfl, h6⟩
  · exact (ar_reset_nil w).mono fun e w' h => ⟨h.1, Or.inl ⟨rfl, rfl, rfl⟩, Chg.of_fresh h.2⟩
  · rcases Nat.eq_zero_or_pos Ls.length with hz | hz
    · have hL : Ls = [] := List.length_eq_zero_iff.1 hz
      subst hL
      have hA : A = [] := List.map_eq_nil_iff.1 h4
      subst hA
      refine (ar_reset0 x gs cs ca fed c f (Ar.st0 []) w h3.1).mono fun e w' h => ?_
      exact ⟨h.1, Or.inr ⟨x, gs, cs, c, ca, [], 0, rfl, rfl, h3.fed h.2.1 (h.2.2.mono (by simp)), rfl, rfl, h6⟩, h.2.2⟩
    · refine (ar_reset2 Ls x gs cs ca _ fed c A h4 f _ rfl (by omega) w h3.1).mono fun e w' h => ?_
      exact ⟨h.1, Or.inr ⟨x, gs, cs, c, ca, A, _, rfl, rfl, h3.fed h.2.1 h.2.2, h4, rfl, h6⟩, by unfold axB; rw [if_neg (by omega)]; exact h.2.2⟩
end Go.Proofs.Ytbdjcppkfihonaa
/- Hold: the row of the text, the object. -/
namespace Go.Proofs.Ytbdjcppkfihonaa
open Go.ChangeShapes Go.WideShapes Go.ChangeAt Go.RowKit
set_option linter.unusedSimpArgs false
set_option linter.unusedVariables false

theorem below_drewH {B : Nat} {a b : World} (h : Below B a b) (q : Nat) : Below B a (b.drewN q) := ⟨h.os, h.tape, h.output, h.size, h.block⟩
theorem bytes_pre {w : World} {g : Nat} {X : List Value} {T : TypeId} {S : ByteArray} (hB : Blk w g (bv S ++ X) T) : Lib.Bytes w g 0 S := by
  intro i hi
  rw [Nat.zero_add]
  exact hB.cell (by rw [List.getElem?_append_left (by rw [bv_length]; exact hi)]; exact bv_at S i hi)
theorem run_convert_none8 (w : World) (t : Option Addr) (ct : Nat) (ht : ∀ ad, t = some ad → ad.spot = none) : (convert 85 9 (.slice t 0 ct)).run Try.prog w = .ok (.string ⟨#[]⟩) w := by
  cases t with
  | none => exact Lib.run_convert_nil_bytes w 85 9 5 ct Try.underlying85 Try.underlying5 Try.underlying9
  | some ad =>
    obtain ⟨b, o, s⟩ := ad
    have := ht _ rfl
    dsimp only at this
    subst this
    have := Lib.run_convert_window (P := Try.prog) w 85 5 9 Try.underlying85 Try.underlying5 Try.underlying9 b o ⟨#[]⟩ (fun i hi => absurd hi (Nat.not_lt_zero i)) 0 0 ct (by simp)
    rw [Nat.add_zero] at this
    exact this
/-- The text S as a row that may be written: none of room, wherever; or at the head of a block. -/
def TV (w : World) (t : Option Addr) (m ct : Nat) (S : ByteArray) : Prop := S.size = m ∧ ((m = 0 ∧ ct = 0 ∧ ∀ ad, t = some ad → ad.spot = none) ∨ ∃ g, t = some ⟨g, 0, none⟩ ∧ Rw w g ct (bv S) 5)
/-- The block that is written, if any. -/
def tvB (t : Option Addr) (ct : Nat) : List Nat := if ct = 0 then [] else rvB t
theorem TV.chg {w w' : World} {t : Option Addr} {m ct : Nat} {S : ByteArray} (h : TV w t m ct S) {l : List Nat} (k : Chg l w w') (hl : ∀ g ∈ tvB t ct, g ∉ l) : TV w' t m ct S := by
  obtain ⟨h0, h1 | ⟨g, h1, h2⟩⟩ := h
  · exact ⟨h0, Or.inl h1⟩
  · by_cases hc : ct = 0
    · have := h2.len
      rw [bv_length] at this
      exact ⟨h0, Or.inl ⟨by omega, hc, fun ad e => by rw [h1] at e; injection e with e; rw [← e]⟩⟩
    · refine ⟨h0, Or.inr ⟨g, h1, h2.chg k (hl g ?_)⟩⟩
      unfold tvB; rw [if_neg hc, h1, rvB_some]; simp
theorem TV.ot {w : World} {t : Option Addr} {m ct : Nat} {S : ByteArray} (h : TV w t m ct S) : ∀ g ∈ tvB t ct, OT w g ∧ g < w.heap.size := by
  intro g hg
  unfold tvB at hg
  by_cases hc : ct = 0
  · rw [if_pos hc] at hg; simp at hg
  · rw [if_neg hc] at hg
    obtain ⟨h0, h1 | ⟨g2, h1, h2⟩⟩ := h
    · omega
    · rw [h1, rvB_some] at hg
      simp at hg
      subst hg
      exact ⟨OT.of_rw h2 (by decide), h2.lt⟩
theorem TV.row {w : World} {t : Option Addr} {m ct : Nat} {S : ByteArray} (h : TV w t m ct S) (hm : 0 < m) : ∃ g, t = some ⟨g, 0, none⟩ ∧ Rw w g ct (bv S) 5 := by
  obtain ⟨h0, h1 | h1⟩ := h
  · omega
  · exact h1
theorem infou8 : (Try.prog.info? 5).map (fun i => (i.zero, i.size, i.bytes)) = some (some (.int .u8 0), 1, 1) := by kernel_rfl
theorem hd_one (x : Int) : ∀ u ∈ [Value.int .u8 x], u.oneCell' = true := by intro u hu; simp at hu; subst hu; rfl
/-- A byte behind. -/
def Hd.snoc (S : ByteArray) (b : UInt8) : ByteArray := S ++ ⟨#[b]⟩
theorem snoc_bv (S : ByteArray) (b : UInt8) : bv (Hd.snoc S b) = bv S ++ [.int .u8 (b.toNat : Int)] := by
  unfold Hd.snoc; rw [bv_append]; rfl
theorem snoc_size (S : ByteArray) (b : UInt8) : (Hd.snoc S b).size = S.size + 1 := by
  unfold Hd.snoc; rw [ByteArray.size_append]; rfl
theorem snoc_list (S : ByteArray) (b : UInt8) : (Hd.snoc S b).data.toList = S.data.toList ++ [b] := by
  unfold Hd.snoc; rw [ByteArray.data_append]; simp
theorem wpList_append_tv (w : World) {ops : Array Oper} {rest : List Oper} {o : Oper} {a : Act} {Q : Exit → Act → World → Prop}
    (hg : o.guard = none) (s x : Operand) (hop : o.op = Op.call { callee := Callee.builtin Builtin.append, args := #[s, x], argTypes := #[85, 85] })
    (t : Option Addr) (m cap : Nat) (S : ByteArray) (hs : a.eval s = .slice t m cap) (hown : TV w t m cap S) (xv : Value) (hx : a.eval x = xv) (b : UInt8) (hsrc : Src Try.prog 1 85 xv 1 [.int .u8 (b.toNat : Int)] w) (h63 : m + 1 ≤ 1000000)
    (hK : ∀ g' cap' w', Rw w' g' cap' (bv (Hd.snoc S b)) 5 → (g' ∈ tvB t cap ∨ w.heap.size ≤ g') → Chg (tvB t cap) w w' → wpList Try.prog ops Q rest (a.put o.dst (.slice (some ⟨g', 0, none⟩) (m + 1) cap')) w') :
    wpList Try.prog ops Q (o :: rest) a w := by
  obtain ⟨h0, h1⟩ := hown
  by_cases hc : cap = 0
  · subst hc
    have hm : m = 0 := by
      rcases h1 with h1 | ⟨g, h1, h2⟩
      · exact h1.1
      · have := h2.len; rw [bv_length] at this; omega
    subst hm
    have hS : bv S = [] := List.length_eq_zero_iff.1 (by rw [bv_length]; omega)
    refine wpList_plain hg fun K hK' => ?_
    obtain ⟨i, hi, hzz⟩ := Option.map_eq_some_iff.1 infou8
    simp only [Prod.mk.injEq] at hzz
    obtain ⟨hz, hs1, hb1⟩ := hzz
    have hold : (Builtin.firstCells i.size 0 (.slice t 0 0)).run Try.prog w.drew = .ok ([] : List Value).toArray w.drew := by
      cases t with
      | none => exact run_firstCells_none w.drew i.size 0 0 0
      | some ad => exact run_firstCells_some w.drew i.size 0 ad 0 0 [] (by simp) (fun j v hj => by simp at hj)
    have hrun := run_append_grow_src (P := Try.prog) (w := w) 85 85 o.type 5 i (.int .u8 0) Try.underlying85 hi hz t 0 0 [] hold xv 1 [.int .u8 (b.toNat : Int)] (by rw [hs1]; exact hsrc) (by omega) (by omega) (growslice_fits (by omega) (by rw [hb1]; omega))
    unfold Oper.wp
    simp [execOp, hop, resolve, invoke, builtin, hs, hx, hrun, Result.andThen]
    have hge := grownCap_ge w (0 + 1) 0 5
    have hle := grownCap_le_maxLen w (0 + 1) 0 5 (by unfold maxLen; omega)
    have hk := hK w.heap.size (grownCap w (0 + 1) 0 5) _ ?_ (Or.inr (Nat.le_refl _)) (((Chg.refl (tvB t 0) w).drew).alloc (.cells ((([] : List Value) ++ [Value.int .u8 (b.toNat : Int)]).toArray ++ Builtin.zeroCells (Value.int .u8 0).cells (grownCap w (0 + 1) 0 5 - (0 + 1))) 5))
    · exact hK' _ _ (by simpa using hk)
    rw [snoc_bv, hS]
    refine ⟨(Builtin.zeroCells (Value.int .u8 0).cells (grownCap w (0 + 1) 0 5 - (0 + 1))).toList, ?_, by unfold maxLen at hle; omega, ?_⟩
    · have ez : ∀ k, (Builtin.zeroCells (Value.int .u8 0).cells k).toList.length = k := fun k => by rw [Array.length_toList, size_zeroCells]; simp [Value.cells]
      simp only [List.nil_append, List.length_cons, List.length_nil, ez]; omega
    · have := Blk.newA w.drew ((([] : List Value) ++ [Value.int .u8 (b.toNat : Int)]).toArray ++ Builtin.zeroCells (Value.int .u8 0).cells (grownCap w (0 + 1) 0 5 - (0 + 1))) 5
      rw [Array.toList_append] at this
      exact this
  · obtain ⟨g, h1, h2⟩ : ∃ g, t = some ⟨g, 0, none⟩ ∧ Rw w g cap (bv S) 5 := by
      rcases h1 with h1 | h1
      · omega
      · exact h1
    subst h1
    refine wpList_append_rw w hg s x 85 85 hop 5 (.int .u8 0) 1 Try.underlying85 infou8 (by simp [Value.cells]) g m cap (bv S) hs (by rw [bv_length]; exact h0) h2 xv hx 1 [.int .u8 (b.toNat : Int)] hsrc h63 (by omega) fun g' cap' w' k1 k2 k3 => ?_
    rw [← snoc_bv] at k1
    have e : tvB (some ⟨g, 0, none⟩) cap = [g] := by unfold tvB; rw [if_neg hc, rvB_some]
    exact hK g' cap' w' k1 (by rw [e]; simpa using k2) (by rw [e]; exact k3)
/-- A window: in block h, how wide it is, its text, how much of it was looked at, its patterns' texts and what they were made to. -/
structure HO (w : World) (h W : Nat) (t : Option Addr) (m ct : Nat) (S : ByteArray) (K : Nat) (pv : Value) (ap : Option Addr) : Prop where
  o : Blk w h [.int .i64 W, .slice t m ct, .int .i64 K, pv, .pointer ap] 108
  tv : TV w t m ct S
  ht : h ∉ tvB t ct
  km : K ≤ m
  w1 : 1 ≤ W ∧ W ≤ 4096
  mw : m ≤ W
theorem HO.chg {w w' : World} {h W m ct K : Nat} {t ap : Option Addr} {S : ByteArray} {pv : Value} (H : HO w h W t m ct S K pv ap) {l : List Nat} (k : Chg l w w') (h1 : h ∉ l) (h2 : ∀ g ∈ tvB t ct, g ∉ l) : HO w' h W t m ct S K pv ap :=
  ⟨H.o.chg k h1, H.tv.chg k h2, H.ht, H.km, H.w1, H.mw⟩
theorem HO.below {w w' : World} {h W m ct K : Nat} {t ap : Option Addr} {S : ByteArray} {pv : Value} (H : HO w h W t m ct S K pv ap) (k : Below w.heap.size w w') : HO w' h W t m ct S K pv ap := H.chg (Chg.of_fresh (l := []) k) (by simp) (by simp)
theorem HO.ot {w : World} {h W m ct K : Nat} {t ap : Option Addr} {S : ByteArray} {pv : Value} (H : HO w h W t m ct S K pv ap) : OT w h := OT.of H.o (by decide)
set_option maxRecDepth 20000 in
theorem hd_new (x : Int) (W : Nat) (hW : min (max x 1) 4096 = (W : Int)) (w : World) : Calls Try.prog 32 #[.int .i64 x] w fun e w' => e = .returned (.pointer (some ⟨w.heap.size, 0, none⟩)) ∧ HO w' w.heap.size W none 0 0 ByteArray.empty 0 (.slice none 0 0) none ∧ Below w.heap.size w w' := by
  have n1 : 1 ≤ W ∧ W ≤ 4096 := by omega
  go_enter Try.func32, Try.ntmps32
  go_wp2
  go_ret
  exact ⟨rfl, ⟨Blk.newA w _ _, ⟨rfl, Or.inl ⟨rfl, rfl, fun ad e => by cases e⟩⟩, by simp [tvB], by omega, n1, by omega⟩, (Below.refl _ _).alloc (Nat.le_refl _) _⟩
set_option maxRecDepth 20000 in
theorem hd_len {w : World} {h W m ct K : Nat} {t ap : Option Addr} {S : ByteArray} {pv : Value} (H : HO w h W t m ct S K pv ap) : Calls Try.prog 45 #[.pointer (some ⟨h, 0, none⟩)] w fun e w' => e = .returned (.int .i64 m) ∧ w = w' := by
  have c1 := H.o.cell (i := 1) rfl
  clear H
  go_enter Try.func45, Try.ntmps45
  go_wp2
  go_ret
  exact ⟨rfl, rfl⟩
set_option maxRecDepth 20000 in
theorem hd_fresh {w : World} {h W m ct K : Nat} {t ap : Option Addr} {S : ByteArray} {pv : Value} (H : HO w h W t m ct S K pv ap) : Calls Try.prog 44 #[.pointer (some ⟨h, 0, none⟩)] w fun e w' => e = .returned (.int .i64 ((m : Int) - (K : Int))) ∧ Below w.heap.size w w' := by
  have c1 := H.o.cell (i := 1) rfl
  have c2 := H.o.cell (i := 2) rfl
  have h1 := H.km
  have h2 := H.mw
  have h3 := H.w1.2
  have w1 : IntKind.i64.wrap ((m : Int) - (K : Int)) = (m : Int) - (K : Int) := IntWalk.i64_in _ (by omega)
  clear H
  go_enter Try.func44, Try.ntmps44
  go_wp2_with fail
  first
    | (go_quiet (fail)
       go_wp2
       go_ret
       exact ⟨rfl, below_drewH (Below.refl _ _) _⟩)
    | (go_ret
       exact ⟨rfl, Below.refl _ _⟩)
set_option maxRecDepth 20000 in
theorem hd_text {w : World} {h W m ct K : Nat} {t ap : Option Addr} {S : ByteArray} {pv : Value} (H : HO w h W t m ct S K pv ap) : Calls Try.prog 43 #[.pointer (some ⟨h, 0, none⟩)] w fun e w' => e = .returned (.string S) ∧ Below w.heap.size w w' := by
  have c1 := H.o.cell (i := 1) rfl
  have hS := H.tv.1
  have h3 := H.w1.2
  have h4 := H.mw
  rcases Nat.eq_zero_or_pos m with hm | hm
  · subst hm
    have hE : S = ⟨#[]⟩ := ByteArray.ext (Array.eq_empty_of_size_eq_zero hS)
    have hsp : ∀ ad, t = some ad → ad.spot = none := by
      obtain ⟨_, h1 | ⟨g, h1, _⟩⟩ := H.tv
      · exact h1.2.2
      · intro ad e; rw [h1] at e; injection e with e; rw [← e]
    have hcv := run_convert_none8 w t ct hsp
    have HE := Lib.hid hE
    clear hE H hS hsp
    go_enter Try.func43, Try.ntmps43
    go_wp2
    go_ret
    exact ⟨by rw [HE.out]; rfl, Below.refl _ _⟩
  · obtain ⟨g, rfl, hr⟩ := H.tv.row hm
    obtain ⟨rest, r1, r2, r3⟩ := hr
    have hcv := Lib.run_convert_window (P := Try.prog) w 85 5 9 Try.underlying85 Try.underlying5 Try.underlying9 g 0 S (bytes_pre r3) 0 m ct (by omega)
    have hX : Hid (S.extract 0 (0 + m) = S) := Lib.hid (by rw [Nat.zero_add, ← hS]; simp)
    rw [hX.out, Nat.add_zero] at hcv
    clear H hS r3
    go_enter Try.func43, Try.ntmps43
    go_wp2
    go_ret
    exact ⟨rfl, Below.refl _ _⟩
end Go.Proofs.Ytbdjcppkfihonaa
/- Hold: read, forget. -/
namespace Go.Proofs.Ytbdjcppkfihonaa
open Go.ChangeShapes Go.WideShapes Go.ChangeAt Go.RowKit
set_option linter.unusedSimpArgs false
set_option linter.unusedVariables false

theorem RAt.lts {w : World} {b g n f : Nat} {S : ByteArray} (h : RAt w b g n f S) : b < w.heap.size ∧ g < w.heap.size := by
  obtain ⟨h1, h2, h3, h4, h5, h6, R, h7, h8, h9⟩ := h
  exact ⟨h6.lt, h8.lt⟩
/-- What was found, in block F. -/
def FB (w : World) (F : Nat) (a b : Bool) (c d e : Int) : Prop := Blk w F [.bool a, .bool b, .int .i64 c, .int .i64 d, .int .i64 e] 75
/-- None of them is another one: the window, the ring's two blocks, what was found, the text. -/
def SEP (h b g F : Nat) (tb : List Nat) : Prop := h ≠ b ∧ h ≠ g ∧ h ≠ F ∧ F ≠ b ∧ F ≠ g ∧ ∀ x ∈ tb, x ≠ b ∧ x ≠ g ∧ x ≠ F
set_option maxRecDepth 20000 in
theorem at_ring_nil (i : Int) (w : World) : Calls Try.prog 77 #[.pointer none, .int .i64 i] w fun e w' => e = .returned (.tuple #[.int .u8 0, .bool false]) ∧ w = w' := by
  go_enter Try.func77, Try.ntmps77
  go_wp2
  go_ret2
  exact ⟨rfl, rfl⟩
set_option maxRecDepth 20000 in
theorem hd_read_nil (h F : Nat) (w : World) : Calls Try.prog 62 #[.pointer (some ⟨h, 0, none⟩), .pointer none, .pointer (some ⟨F, 0, none⟩)] w fun e w' => e = .returned (.bool false) ∧ w = w' := by
  go_enter Try.func62, Try.ntmps62
  go_wp2_with (go_at_call 77; refine (at_ring_nil 0 _).mono ?_; rintro e W1 ⟨rfl, rfl⟩)
  go_ret
  exact ⟨rfl, rfl⟩
set_option maxRecDepth 20000 in
theorem hd_read_none (h F b g n f : Nat) (R : ByteArray) (hR : R.size = 0) (w : World) (hr : RAt w b g n f R) : Calls Try.prog 62 #[.pointer (some ⟨h, 0, none⟩), .pointer (some ⟨b, 0, none⟩), .pointer (some ⟨F, 0, none⟩)] w fun e w' => e = .returned (.bool false) ∧ w = w' := by
  have H := Lib.hid (And.intro hr hR)
  clear hr hR
  go_enter Try.func62, Try.ntmps62
  go_wp2_with (go_at_call 77; refine (at_no b g n f R 0 _ H.out.1 (Or.inr (by have := H.out.2; omega))).mono ?_; rintro e W1 ⟨rfl, rfl⟩)
  go_ret
  exact ⟨rfl, rfl⟩
set_option maxRecDepth 20000 in
set_option maxHeartbeats 4000000 in
theorem hd_read_full (h F b g n f W m ct K : Nat) (t ap : Option Addr) (S R : ByteArray) (pv : Value) (a1 a2 : Bool) (i1 i2 i3 : Int) (hR : 0 < R.size) (hm : W ≤ m) (hF : F ≠ h) (w : World) (H : HO w h W t m ct S K pv ap) (hr : RAt w b g n f R) (hf : FB w F a1 a2 i1 i2 i3) : Calls Try.prog 62 #[.pointer (some ⟨h, 0, none⟩), .pointer (some ⟨b, 0, none⟩), .pointer (some ⟨F, 0, none⟩)] w fun e w' => e = .returned (.bool false) ∧ FB w' F a1 true i1 i2 i3 ∧ Chg [F] w w' := by
  obtain ⟨z, hz⟩ : ∃ z : Int, (R[0].toNat : Int) = z := ⟨_, rfl⟩
  have HH := Lib.hid (And.intro H (And.intro hr (And.intro hf (And.intro hR (And.intro hz hF)))))
  have i4 : (W : Int) ≤ (m : Int) := by omega
  clear H hr hf hz hF
  go_enter Try.func62, Try.ntmps62
  go_wp2_with (go_at_call 77; refine (at_yes b g n f 0 R z _ HH.out.2.1 HH.out.2.2.2.1 HH.out.2.2.2.2.1).mono ?_; rintro e W1 ⟨rfl, q, hq⟩; have HQ : Hid (HO W1 h W t m ct S K pv ap ∧ FB W1 F a1 a2 i1 i2 i3 ∧ Chg [] w W1) := Lib.hid (by subst hq; exact ⟨HH.out.1.below (below_drewH (Below.refl _ _) q), HH.out.2.2.1.drewN q, (Chg.refl [] w).drewN q⟩); clear hq)
  have c0 := HQ.out.1.o.cell (i := 0) rfl
  have c1 := HQ.out.1.o.cell (i := 1) rfl
  go_quiet (fail)
  have HV : Hid (FB (W1.drewN nq) F a1 a2 i1 i2 i3 ∧ Chg [F] w (W1.drewN nq)) := Lib.hid ⟨HQ.out.2.1.drewN _, (HQ.out.2.2.drewN _).mono (by simp)⟩
  revert HV
  generalize W1.drewN nq = W2
  intro HV
  clear c0 c1
  have c1 := HV.out.1.cell (i := 1) rfl
  have f1 := HV.out.1.free 1
  go_wp2
  go_ret
  exact ⟨rfl, HV.out.1.set 1 _, HV.out.2.set (Or.inl (by simp)) _ _⟩
set_option maxRecDepth 20000 in
set_option maxHeartbeats 8000000 in
theorem hd_read_yes (h F b g n f W m ct K : Nat) (t ap : Option Addr) (S R : ByteArray) (pv : Value) (a1 a2 : Bool) (i1 i2 : Int) (rd : Nat) (hrd : rd ≤ 1000000) (hR : 0 < R.size) (hm : m < W) (w : World) (H : HO w h W t m ct S K pv ap) (hr : RAt w b g n f R) (hf : FB w F a1 a2 i1 i2 rd) (hs : SEP h b g F (tvB t ct)) :
    Calls Try.prog 62 #[.pointer (some ⟨h, 0, none⟩), .pointer (some ⟨b, 0, none⟩), .pointer (some ⟨F, 0, none⟩)] w fun e w' => ∃ g' ct' f2, e = .returned (.bool true) ∧ HO w' h W (some ⟨g', 0, none⟩) (m + 1) ct' (Hd.snoc S R[0]) K pv ap ∧ RAt w' b g n f2 (R.extract 1 R.size) ∧ FB w' F a1 a2 i1 i2 (rd + 1 : Nat) ∧ SEP h b g F (tvB (some ⟨g', 0, none⟩) ct') ∧ (∀ x ∈ tvB (some ⟨g', 0, none⟩) ct', x ∈ tvB t ct ∨ w.heap.size ≤ x) ∧ Chg (h :: b :: F :: tvB t ct) w w' := by
  obtain ⟨z, hz⟩ : ∃ z : Int, (R[0].toNat : Int) = z := ⟨_, rfl⟩
  obtain ⟨s1, s2, s3, s4, s5, s6⟩ := hs
  have hW := H.w1.2
  have HH := Lib.hid (And.intro H (And.intro hr (And.intro hf (And.intro hR (And.intro hz (And.intro s6 (And.intro (And.intro s1 (And.intro s2 (And.intro s3 (And.intro s4 s5)))) (And.intro hr.lts H.o.lt))))))))
  have i4 : ¬ (W : Int) ≤ (m : Int) := by omega
  have s3' : F ≠ h := fun e => s3 e.symm
  have w1 : IntKind.i64.wrap ((rd : Int) + 1) = (rd : Int) + 1 := IntWalk.i64_in _ (by omega)
  clear H hr hf hz s6
  go_enter Try.func62, Try.ntmps62
  go_wp2_with (go_at_call 77; refine (at_yes b g n f 0 R z _ HH.out.2.1 HH.out.2.2.2.1 HH.out.2.2.2.2.1).mono ?_; rintro e W1 ⟨rfl, q, hq⟩; have HQ : Hid (HO W1 h W t m ct S K pv ap ∧ FB W1 F a1 a2 i1 i2 rd ∧ Chg [] w W1 ∧ RAt W1 b g n f R) := Lib.hid (by subst hq; exact ⟨HH.out.1.below (below_drewH (Below.refl _ _) q), HH.out.2.2.1.drewN q, (Chg.refl [] w).drewN q, HH.out.2.1.drewN q⟩); clear hq)
  have c0 := HQ.out.1.o.cell (i := 0) rfl
  have c1 := HQ.out.1.o.cell (i := 1) rfl
  go_quiet (fail)
  have HV : Hid (HO (W1.drewN nq) h W t m ct S K pv ap ∧ FB (W1.drewN nq) F a1 a2 i1 i2 rd ∧ Chg [] w (W1.drewN nq) ∧ RAt (W1.drewN nq) b g n f R) := Lib.hid ⟨HQ.out.1.below (below_drewH (Below.refl _ _) _), HQ.out.2.1.drewN _, HQ.out.2.2.1.drewN _, HQ.out.2.2.2.drewN _⟩
  revert HV
  generalize W1.drewN nq = W2
  intro HV
  clear c0 c1
  go_wp2_with fail
  refine (drop_some b g n f 1 R 1 _ HV.out.2.2.2 (by have := HH.out.2.2.2.1; omega) (by omega) HH.out.2.2.2.1).mono ?_
  rintro e W3 ⟨rfl, q1, q2⟩
  have HX : Hid (HO W3 h W t m ct S K pv ap ∧ FB W3 F a1 a2 i1 i2 rd ∧ Chg [b] w W3 ∧ RAt W3 b g n (rix f n 1) (R.extract 1 R.size)) := Lib.hid (by
    have h1 := HH.out.2.2.2.2.2.2.1; have h2 := HH.out.2.2.2.2.2.1
    exact ⟨HV.out.1.chg q2 (by simpa using h1.1) (fun x hx => by simpa using (h2 x hx).1), HV.out.2.1.chg q2 (by simpa using h1.2.2.2.1), (HV.out.2.2.1.mono (by simp)).trans q2 (fun x hx => Or.inl hx), q1⟩)
  clear q1 q2
  have c1 := HX.out.1.o.cell (i := 1) rfl
  have hcf := HX.out.1.o.free 1
  go_wp2_with (refine wpList_append_tv _ rfl (.tmp 35) (.tmp 37) rfl t m ct S rfl (HX.out.1.tv.chg (l := []) ((Chg.refl _ _).alloc _) (by simp)) _ rfl R[0] (Src.ofSlice _ Try.underlying85 _ _ _ _ rfl (fun i u hi => by rw [Addr.add_lit, Nat.zero_add, HH.out.2.2.2.2.1] at *; exact (Blk.newA W3 #[.int .u8 z] 5).cell hi) (hd_one _)) (by omega) ?_
               intro g' ct' W4 q1 q2 q3
               have HY : Hid (Blk W4 h [.int .i64 W, .slice t m ct, .int .i64 K, pv, .pointer ap] 108 ∧ FB W4 F a1 a2 i1 i2 rd ∧ RAt W4 b g n (rix f n 1) (R.extract 1 R.size) ∧ Rw W4 g' ct' (bv (Hd.snoc S R[0])) 5 ∧ (g' ∈ tvB t ct ∨ w.heap.size ≤ g') ∧ g' ≠ h ∧ g' ≠ b ∧ g' ≠ g ∧ g' ≠ F ∧ Chg (b :: tvB t ct) w W4) := Lib.hid (by
                 have h1 := HH.out.2.2.2.2.2.2.1; have h2 := HH.out.2.2.2.2.2.1; have h3 := HH.out.2.2.2.2.2.2.2; have h4 := HX.out.2.2.1.size
                 have k0 := (Chg.refl [] W3).alloc (.cells #[.int .u8 z] 5)
                 have nF : F ∉ tvB t ct := fun e => (h2 F e).2.2 rfl
                 have nb : b ∉ tvB t ct := fun e => (h2 b e).1 rfl
                 have ng : g ∉ tvB t ct := fun e => (h2 g e).2.1 rfl
                 have nh := HX.out.1.ht
                 have hF := HX.out.2.1.lt
                 have hb3 := HX.out.2.2.2.lts
                 have hh3 := HX.out.1.o.lt
                 have hg' : g' ∈ tvB t ct ∨ W3.heap.size + 1 ≤ g' := by simpa using q2
                 refine ⟨(HX.out.1.o.chg k0 (by simp)).chg q3 nh, (HX.out.2.1.chg k0 (by simp)).chg q3 nF, (HX.out.2.2.2.chg k0 (by simp) (by simp)).chg q3 nb ng, q1, ?_, ?_, ?_, ?_, ?_, ((HX.out.2.2.1.alloc _).mono (by simp)).trans q3 (fun x hx => Or.inl (by simp [hx]))⟩
                 · rcases hg' with e | e
                   · exact Or.inl e
                   · exact Or.inr (by omega)
                 · rcases hg' with e | e
                   · exact fun e2 => nh (e2 ▸ e)
                   · omega
                 · rcases hg' with e | e
                   · exact fun e2 => nb (e2 ▸ e)
                   · omega
                 · rcases hg' with e | e
                   · exact fun e2 => ng (e2 ▸ e)
                   · omega
                 · rcases hg' with e | e
                   · exact fun e2 => nF (e2 ▸ e)
                   · omega)
               have y1 := HY.out.1.cell (i := 1) rfl
               have yf := HY.out.1.free 1
               have y4 := HY.out.2.1.cell (i := 4) rfl
               have yf4 := HY.out.2.1.free 4
               have HZ : Hid (Blk (W4.setCell ⟨h, 1, none⟩ (.slice (some ⟨g', 0, none⟩) (m + 1) ct')) h [.int .i64 W, .slice (some ⟨g', 0, none⟩) (m + 1) ct', .int .i64 K, pv, .pointer ap] 108 ∧ FB (W4.setCell ⟨h, 1, none⟩ (.slice (some ⟨g', 0, none⟩) (m + 1) ct')) F a1 a2 i1 i2 rd ∧ RAt (W4.setCell ⟨h, 1, none⟩ (.slice (some ⟨g', 0, none⟩) (m + 1) ct')) b g n (rix f n 1) (R.extract 1 R.size) ∧ Rw (W4.setCell ⟨h, 1, none⟩ (.slice (some ⟨g', 0, none⟩) (m + 1) ct')) g' ct' (bv (Hd.snoc S R[0])) 5 ∧ Chg (h :: b :: tvB t ct) w (W4.setCell ⟨h, 1, none⟩ (.slice (some ⟨g', 0, none⟩) (m + 1) ct'))) := Lib.hid (by
                 have h1 := HH.out.2.2.2.2.2.2.1
                 have k1 : Chg [h] W4 (W4.setCell ⟨h, 1, none⟩ (.slice (some ⟨g', 0, none⟩) (m + 1) ct')) := (Chg.refl [h] W4).set (Or.inl (by simp)) _ _
                 exact ⟨HY.out.1.set 1 _, HY.out.2.1.chg k1 (by simpa using fun e => h1.2.2.1 e.symm), HY.out.2.2.1.chg k1 (by simpa using fun e => h1.1 e.symm) (by simpa using fun e => h1.2.1 e.symm), HY.out.2.2.2.1.chg k1 (by simpa using HY.out.2.2.2.2.2.1), (HY.out.2.2.2.2.2.2.2.2.2.mono (by intro x hx; simp at hx ⊢; rcases hx with e | e <;> simp [e])).set (Or.inl (by simp)) _ _⟩))
  all_goals
    revert HZ
    generalize (W4.setCell ⟨h, 1, none⟩ (.slice (some ⟨g', 0, none⟩) (m + 1) ct')) = W5
    intro HZ
    go_ret
    have h1 := HH.out.2.2.2.2.2.2.1
    have k2 : Chg [F] W5 (W5.setCell ⟨F, 4, none⟩ (.int .i64 ((rd : Int) + 1))) := (Chg.refl [F] W5).set (Or.inl (by simp)) _ _
    have ny := HY.out.2.2.2.2
    have htv : ∀ x ∈ tvB (some ⟨g', 0, none⟩) ct', x = g' := fun x hx => by
      unfold tvB at hx
      split at hx
      · simp at hx
      · rw [rvB_some] at hx; simpa using hx
    refine ⟨g', ct', _, rfl, ⟨HZ.out.1.chg k2 (by simpa using h1.2.2.1), ⟨by rw [snoc_size, HX.out.1.tv.1], Or.inr ⟨g', rfl, HZ.out.2.2.2.1.chg k2 (by simpa using ny.2.2.2.2.1)⟩⟩, fun e => ny.2.1 (htv _ e).symm, by have := HX.out.1.km; omega, HX.out.1.w1, by omega⟩, HZ.out.2.2.1.chg k2 (by simpa using fun e => h1.2.2.2.1 e.symm) (by simpa using fun e => h1.2.2.2.2 e.symm), HZ.out.2.1.set 4 _, ⟨h1.1, h1.2.1, h1.2.2.1, h1.2.2.2.1, h1.2.2.2.2, fun x hx => by rw [htv x hx]; exact ⟨ny.2.2.1, ny.2.2.2.1, ny.2.2.2.2.1⟩⟩, fun x hx => by rw [htv x hx]; exact ny.1, (HZ.out.2.2.2.2.mono (by intro x hx; simp at hx ⊢; rcases hx with e | e | e <;> simp [e])).set (Or.inl (by simp)) _ _⟩
end Go.Proofs.Ytbdjcppkfihonaa
/- Hold: forget. -/
namespace Go.Proofs.Ytbdjcppkfihonaa
open Go.ChangeShapes Go.WideShapes Go.ChangeAt Go.RowKit
set_option linter.unusedSimpArgs false
set_option linter.unusedVariables false

theorem step_append_tv0 {ops : Array Oper} {o : Oper} {a : Act} {w : World} {K : Act → World → Prop} {Q : Exit → Act → World → Prop} {E : Prop}
    (hgd : o.guard = none) (s x : Operand) (hop : o.op = Op.call { callee := Callee.builtin Builtin.append, args := #[s, x], argTypes := #[85, 85] })
    (g0 o0 : Nat) (hs : a.eval s = .slice (some ⟨g0, o0, none⟩) 0 0) (xv : Value) (hx : a.eval x = xv) (q : Nat) (X : ByteArray) (hX : X.size = q) (hsrc : Src Try.prog 1 85 xv q (bv X) w) (hq : q ≤ 1000000)
    (hK : ∀ t' cap' w', TV w' t' q cap' X → (∀ g ∈ tvB t' cap', w.heap.size ≤ g) → Below w.heap.size w w' → K (a.put o.dst (.slice t' q cap')) w') :
    if Region.wanted o (yielded ops a.tmps) = true then Oper.wp Try.prog o a w K Q else E := by
  have hw : Region.wanted o (yielded ops a.tmps) = true := by simp [Region.wanted, hgd]
  rw [if_pos hw]
  obtain ⟨i, hi, hzz⟩ := Option.map_eq_some_iff.1 infou8
  simp only [Prod.mk.injEq] at hzz
  obtain ⟨hz, hs1, hb1⟩ := hzz
  rcases Nat.eq_zero_or_pos q with hq0 | hq0
  · subst hq0
    have hE : bv X = [] := List.length_eq_zero_iff.1 (by rw [bv_length]; omega)
    rw [hE] at hsrc
    have hrun := run_append_room_src (P := Try.prog) (w := w) 85 85 o.type 5 i Try.underlying85 hi g0 o0 0 0 xv 0 [] (by rw [hs1]; exact hsrc) (by omega) (fun j hj => by simp at hj) (fun j hj => by simp at hj)
    unfold Oper.wp
    simp [execOp, hop, resolve, invoke, builtin, hs, hx, hrun, Result.andThen, Oper.upon]
    exact hK (some ⟨g0, o0, none⟩) 0 w ⟨hX, Or.inl ⟨rfl, rfl, fun ad e => by cases e; rfl⟩⟩ (fun g hg => by unfold tvB at hg; rw [if_pos rfl] at hg; cases hg) (Below.refl _ _)
  · have hold : (Builtin.firstCells i.size 0 (.slice (some ⟨g0, o0, none⟩) 0 0)).run Try.prog w.drew = .ok ([] : List Value).toArray w.drew := run_firstCells_some w.drew i.size 0 _ 0 0 [] (by simp) (fun j v hj => by simp at hj)
    have hrun := run_append_grow_src (P := Try.prog) (w := w) 85 85 o.type 5 i (.int .u8 0) Try.underlying85 hi hz (some ⟨g0, o0, none⟩) 0 0 [] hold xv q (bv X) (by rw [hs1]; exact hsrc) (by omega) (by omega) (growslice_fits (by omega) (by rw [hb1]; omega))
    unfold Oper.wp
    simp [execOp, hop, resolve, invoke, builtin, hs, hx, hrun, Result.andThen, Oper.upon]
    have hge := grownCap_ge w (0 + q) 0 5
    have hle := grownCap_le_maxLen w (0 + q) 0 5 (by unfold maxLen; omega)
    have hk := hK (some ⟨w.heap.size, 0, none⟩) (grownCap w (0 + q) 0 5) (w.drew.alloc (.cells ((([] : List Value) ++ bv X).toArray ++ Builtin.zeroCells (Value.int .u8 0).cells (grownCap w (0 + q) 0 5 - (0 + q))) 5)) ?_ ?_ (((Below.refl _ _).drew).alloc (Nat.le_refl _) _)
    · simpa using hk
    · refine ⟨hX, Or.inr ⟨w.heap.size, rfl, (Builtin.zeroCells (Value.int .u8 0).cells (grownCap w (0 + q) 0 5 - (0 + q))).toList, ?_, by unfold maxLen at hle; omega, ?_⟩⟩
      · have ez : ∀ k, (Builtin.zeroCells (Value.int .u8 0).cells k).toList.length = k := fun k => by rw [Array.length_toList, size_zeroCells]; simp [Value.cells]
        rw [ez, bv_length]; omega
      · have := Blk.newA w.drew ((([] : List Value) ++ bv X).toArray ++ Builtin.zeroCells (Value.int .u8 0).cells (grownCap w (0 + q) 0 5 - (0 + q))) 5
        rw [Array.toList_append] at this
        exact this
    · intro g hg
      unfold tvB at hg
      split at hg
      · simp at hg
      · rw [rvB_some] at hg; simp at hg; omega
set_option maxRecDepth 20000 in
set_option maxHeartbeats 8000000 in
theorem hd_forget (h W m ct K n : Nat) (t ap : Option Addr) (S X : ByteArray) (pv : Value) (xs : List Nat) (Ls : List (List (Bool × BitVec 256))) (f : Nat → BitVec 64) (fed : Nat) (hn : 1 ≤ n) (hnm : n ≤ m) (hX : S.extract n m = X) (w : World) (H : HO w h W t m ct S K pv ap) (hx : AX w ap xs Ls f fed) :
    Calls Try.prog 64 #[.pointer (some ⟨h, 0, none⟩), .int .i64 n] w fun e w' => e = .returned (.tuple #[]) ∧ ∃ t' ct', HO w' h W t' (m - n) ct' X 0 pv ap ∧ AX w' ap xs Ls (Ar.st0 Ls) 0 ∧ (∀ g ∈ tvB t' ct', w.heap.size ≤ g) ∧ Chg (h :: xs) w w' := by
  have hW := H.w1.2
  have hmW := H.mw
  have hSm := H.tv.1
  obtain ⟨g, rfl, hr⟩ := H.tv.row (by omega)
  have hcm : m ≤ ct := by have := hr.len; rw [bv_length, hSm] at this; exact this
  have hXs : X.size = m - n := by rw [← hX, ByteArray.size_extract]; omega
  obtain ⟨AD, hAD, hsrc⟩ : ∃ AD : Addr, (if ct = n then (some ⟨g, 0, none⟩ : Option Addr) else some ⟨g, n, none⟩) = some AD ∧ ∀ j u, (bv X)[j]? = some u → w.drew.cell? (AD.add j) = some u := by
    by_cases hc : ct = n
    · refine ⟨⟨g, 0, none⟩, by simp [hc], fun j u hj => ?_⟩
      have h0 : (bv X).length = 0 := by rw [bv_length, hXs]; omega
      rw [List.length_eq_zero_iff.1 h0] at hj
      simp at hj
    · refine ⟨⟨g, n, none⟩, by simp [hc], fun j u hj => ?_⟩
      rw [Addr.add_lit]
      refine hr.cell (j := n + j) ?_
      rw [← hX, bv_extract, List.getElem?_drop] at hj
      rw [List.getElem?_take] at hj
      split at hj
      · exact hj
      · cases hj
  have HH := Lib.hid (And.intro H (And.intro hx (And.intro hXs (And.intro hsrc H.o.lt))))
  have c1 := H.o.cell (i := 1) rfl
  have hf1 := H.o.free 1
  have n0 : (0 : Int) ≤ (n : Int) := by omega
  have n1 : (n : Int) ≤ (m : Int) := by omega
  have n2 : (n : Int) ≤ (ct : Int) := by omega
  have n3 : n ≤ ct := by omega
  clear H hx hXs hsrc hr hSm hX
  go_enter Try.func64, Try.ntmps64
  go_wp2_with fail
  go_region_law (first
    | (refine step_append_tv0 rfl (.tmp 12) (.tmp 18) rfl _ _ rfl _ rfl (m - n) X HH.out.2.2.1 (Src.ofSlice _ Try.underlying85 _ _ _ _ (by rw [bv_length, HH.out.2.2.1, Nat.mul_one]) HH.out.2.2.2.1 (bv_one _)) (by omega) ?_
       intro t' ct' W1 q1 q2 q3
       have HY : Hid (Blk W1 h [.int .i64 W, .slice (some ⟨g, 0, none⟩) m ct, .int .i64 K, pv, .pointer ap] 108 ∧ TV W1 t' (m - n) ct' X ∧ (∀ g ∈ tvB t' ct', w.heap.size ≤ g) ∧ AX W1 ap xs Ls f fed ∧ Below w.heap.size w W1) := Lib.hid ⟨HH.out.1.o.drew.below q3 HH.out.2.2.2.2, q1, q2, HH.out.2.1.below (((Below.refl _ _).drew).trans q3), ((Below.refl _ _).drew).trans q3⟩
       have y1 := HY.out.1.cell (i := 1) rfl
       have yf := HY.out.1.free 1
       clear q1 q2 q3)
    | fail)
  all_goals
    have HZ : Hid (Blk (W1.setCell ⟨h, 1, none⟩ (.slice t' (m - n) ct')) h [.int .i64 W, .slice t' (m - n) ct', .int .i64 K, pv, .pointer ap] 108 ∧ TV (W1.setCell ⟨h, 1, none⟩ (.slice t' (m - n) ct')) t' (m - n) ct' X ∧ AX (W1.setCell ⟨h, 1, none⟩ (.slice t' (m - n) ct')) ap xs Ls f fed ∧ Chg [h] w (W1.setCell ⟨h, 1, none⟩ (.slice t' (m - n) ct'))) := Lib.hid (by
      have k1 : Chg [h] W1 (W1.setCell ⟨h, 1, none⟩ (.slice t' (m - n) ct')) := (Chg.refl [h] W1).set (Or.inl (by simp)) _ _
      have hlt := HH.out.2.2.2.2
      exact ⟨HY.out.1.set 1 _, HY.out.2.1.chg k1 (fun x hx => by simp; have := HY.out.2.2.1 x hx; omega), HY.out.2.2.2.1.chg k1 (fun b hb => by simp at hb; rw [hb]; exact OT.of HY.out.1 (by decide)), (Chg.of_fresh HY.out.2.2.2.2).trans k1 (fun x hx => Or.inl hx)⟩)
    revert HZ
    generalize (W1.setCell ⟨h, 1, none⟩ (.slice t' (m - n) ct')) = W2
    intro HZ
    clear y1 yf c1 hf1
    have z2 := HZ.out.1.cell (i := 2) rfl
    have z4 := HZ.out.1.cell (i := 4) rfl
    have zf := HZ.out.1.free 2
    go_wp2_with fail
    have HV : Hid (Blk (W2.setCell ⟨h, 2, none⟩ (.int .i64 0)) h [.int .i64 W, .slice t' (m - n) ct', .int .i64 0, pv, .pointer ap] 108 ∧ TV (W2.setCell ⟨h, 2, none⟩ (.int .i64 0)) t' (m - n) ct' X ∧ AX (W2.setCell ⟨h, 2, none⟩ (.int .i64 0)) ap xs Ls f fed ∧ Chg [h] w (W2.setCell ⟨h, 2, none⟩ (.int .i64 0))) := Lib.hid (by
      have k1 : Chg [h] W2 (W2.setCell ⟨h, 2, none⟩ (.int .i64 0)) := (Chg.refl [h] W2).set (Or.inl (by simp)) _ _
      have hlt := HH.out.2.2.2.2
      exact ⟨HZ.out.1.set 2 _, HZ.out.2.1.chg k1 (fun x hx => by simp; have := HY.out.2.2.1 x hx; omega), HZ.out.2.2.1.chg k1 (fun b hb => by simp at hb; rw [hb]; exact OT.of HZ.out.1 (by decide)), HZ.out.2.2.2.trans k1 (fun x hx => Or.inl hx)⟩)
    refine (ax_reset HV.out.2.2.1).mono ?_
    rintro e W3 ⟨rfl, q1, q2⟩
    have HX : Hid (HO W3 h W t' (m - n) ct' X 0 pv ap ∧ AX W3 ap xs Ls (Ar.st0 Ls) 0 ∧ Chg (h :: xs) w W3) := Lib.hid (by
      have hh : h ∉ xs := HV.out.2.2.1.xs (OT.of HV.out.1 (by decide))
      have ht : ∀ x ∈ tvB t' ct', x ∉ xs := fun x hx => HV.out.2.2.1.xs (HV.out.2.1.ot x hx).1
      exact ⟨⟨HV.out.1.chg q2 hh, HV.out.2.1.chg q2 ht, fun e => by have := HY.out.2.2.1 _ e; have := HH.out.2.2.2.2; omega, by omega, HH.out.1.w1, by omega⟩, q1, (HV.out.2.2.2.mono (by simp)).trans q2 (fun x hx => Or.inl (by simp [hx]))⟩)
    clear q1 q2
    go_wp2_with fail
    go_end0
    exact ⟨rfl, t', ct', HX.out.1, HX.out.2.1, HY.out.2.2.1, HX.out.2.2⟩
end Go.Proofs.Ytbdjcppkfihonaa
