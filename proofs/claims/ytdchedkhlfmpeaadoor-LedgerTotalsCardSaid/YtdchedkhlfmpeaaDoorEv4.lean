/- Events: what is gathered of one. -/
import Derived.Test.YtdchedkhlfmpeaaDoorEv3
import Derived.WalkKit
import Derived.ProofKit
import Derived.Handy
import Derived.WalkLawsBesides
import Derived.WalkSpells
import Derived.Lib.Hide
import Derived.Lib.SliceRun
import Derived.Deep.RegionLaw
import Derived.RegionTactic
import Derived.ChangeAlike
import Derived.WalkSmall
import Derived.Deep.QuietTactic
import Derived.BigQuiet
import Derived.OwnWalk
import Derived.Outline
import Derived.Deep.CutRange
import Derived.Deep.CutBlock
import Derived.LoopTactic
namespace Go.Proofs.YtdchedkhlfmpeaaDoor
open Go.ChangeShapes Go.WideShapes Go.ChangeAt Go.RowKit
set_option linter.unusedSimpArgs false
set_option linter.unusedVariables false

/-- What an event leaves of the status. -/
def Pj.ss (T : List Ev) : Int := T.foldl (fun s x => if x.k = 8 then x.s5 else s) 0
def Pj.rd (T : List Ev) : ByteArray := T.foldl (fun s x => if x.k = 4 then s ++ x.b else s) ⟨#[]⟩
def Pj.tk (T : List Ev) : ByteArray := T.foldl (fun s x => if x.k = 6 then s ++ x.b else s) ⟨#[]⟩
def Pj.eof (T : List Ev) : Bool := T.any (fun x => x.k == 5)
def Pj.inC (x : Ev) : List Value := if x.k = 4 then [.int .i64 1, .string x.b, .int .i64 0, .int .i64 0] else if x.k = 5 then [.int .i64 2, .string ⟨#[]⟩, .int .i64 0, .int .i64 0] else if x.k = 6 then [.int .i64 3, .string ⟨#[]⟩, .int .i64 x.n, .int .i64 0] else if x.k = 8 then [.int .i64 5, .string ⟨#[]⟩, .int .i64 0, .int .i64 x.s0] else [.int .i64 4, .string ⟨#[]⟩, .int .i64 0, .int .i64 x.t]
def Pj.ins (T : List Ev) : List Value := T.flatMap Pj.inC
/-- Steps as letters. -/
def Ev.st (x : Ev) : List Value := [.int .i64 x.s0, .int .i64 x.s1, .int .i64 x.s2, .int .i64 x.s3, .int .i64 x.s4, .int .i64 x.s5]
def Pj.stE (T : List Ev) : List Ev := T.filter (fun x => x.k == 8)
def Pj.sts (T : List Ev) : List Value := (Pj.stE T).flatMap Ev.st
/-- What one more event adds. -/
def Pj.one (x : Ev) (T : List Ev) : List Ev := if x.k = 4 ∨ x.k = 5 ∨ x.k = 6 ∨ x.k = 8 ∨ (x.k = 7 ∧ Pj.ss T = 0) then T ++ [x] else T
/-- What is gathered of id. -/
def Pj.step (id : Int) (T : List Ev) (x : Ev) : List Ev := if x.k = 7 ∨ x.i = id then Pj.one x T else T
def Pj.told (id : Int) (L : List Ev) : List Ev := L.foldl (Pj.step id) []
theorem Pj.told_snoc (id : Int) (L : List Ev) (x : Ev) : Pj.told id (L ++ [x]) = Pj.step id (Pj.told id L) x := by unfold Pj.told; rw [List.foldl_append]; rfl
theorem Pj.ss_snoc (T : List Ev) (x : Ev) : Pj.ss (T ++ [x]) = if x.k = 8 then x.s5 else Pj.ss T := by unfold Pj.ss; rw [List.foldl_append]; rfl
theorem Pj.rd_snoc (T : List Ev) (x : Ev) : Pj.rd (T ++ [x]) = if x.k = 4 then Pj.rd T ++ x.b else Pj.rd T := by unfold Pj.rd; rw [List.foldl_append]; rfl
theorem Pj.tk_snoc (T : List Ev) (x : Ev) : Pj.tk (T ++ [x]) = if x.k = 6 then Pj.tk T ++ x.b else Pj.tk T := by unfold Pj.tk; rw [List.foldl_append]; rfl
theorem Pj.eof_snoc (T : List Ev) (x : Ev) : Pj.eof (T ++ [x]) = (Pj.eof T || x.k == 5) := by unfold Pj.eof; rw [List.any_append]; simp
theorem Pj.ins_snoc (T : List Ev) (x : Ev) : Pj.ins (T ++ [x]) = Pj.ins T ++ Pj.inC x := by unfold Pj.ins; rw [List.flatMap_append]; simp
theorem Pj.inC_len (x : Ev) : (Pj.inC x).length = 4 := by unfold Pj.inC; repeat (first | rfl | split)
theorem Pj.ins_len (T : List Ev) : (Pj.ins T).length = T.length * 4 := by
  induction T with
  | nil => rfl
  | cons x T ih => unfold Pj.ins at *; rw [List.flatMap_cons, List.length_append, List.length_cons, Pj.inC_len, ih]; omega
theorem Pj.stE_snoc (T : List Ev) (x : Ev) : Pj.stE (T ++ [x]) = if x.k = 8 then Pj.stE T ++ [x] else Pj.stE T := by
  unfold Pj.stE; rw [List.filter_append]
  by_cases h : x.k = 8
  · simp [h]
  · simp [h]
theorem Pj.sts_snoc (T : List Ev) (x : Ev) : Pj.sts (T ++ [x]) = if x.k = 8 then Pj.sts T ++ x.st else Pj.sts T := by
  unfold Pj.sts; rw [Pj.stE_snoc]; split
  · rw [List.flatMap_append]; simp
  · rfl
theorem Pj.nst_snoc (T : List Ev) (x : Ev) : (Pj.stE (T ++ [x])).length = if x.k = 8 then (Pj.stE T).length + 1 else (Pj.stE T).length := by
  rw [Pj.stE_snoc]; split
  · simp
  · rfl
theorem Pj.nst_le (T : List Ev) : (Pj.stE T).length ≤ T.length := List.length_filter_le _ _
theorem Pj.one_len (x : Ev) (T : List Ev) : (Pj.one x T).length ≤ T.length + 1 := by
  unfold Pj.one; split
  · simp
  · omega
theorem Pj.one_yes {x : Ev} (h : x.k = 4 ∨ x.k = 5 ∨ x.k = 6 ∨ x.k = 8) (T : List Ev) : Pj.one x T = T ++ [x] := by unfold Pj.one; rw [if_pos (by rcases h with h | h | h | h <;> simp [h])]
theorem Pj.one_no {x : Ev} (h : x.k ≠ 4 ∧ x.k ≠ 5 ∧ x.k ≠ 6 ∧ x.k ≠ 8 ∧ x.k ≠ 7) (T : List Ev) : Pj.one x T = T := by unfold Pj.one; rw [if_neg (by simp [h.1, h.2.1, h.2.2.1, h.2.2.2.1, h.2.2.2.2])]
theorem Pj.step_len (id : Int) (T : List Ev) (x : Ev) : (Pj.step id T x).length ≤ T.length + 1 := by
  unfold Pj.step; split
  · exact Pj.one_len x T
  · omega
/-- All bytes of events. -/
def Ev.sum (L : List Ev) : Nat := L.foldl (fun s x => s + x.b.size) 0
theorem Ev.sum_snoc (L : List Ev) (x : Ev) : Ev.sum (L ++ [x]) = Ev.sum L + x.b.size := by unfold Ev.sum; rw [List.foldl_append]; rfl
theorem Ev.sum_acc : ∀ (L : List Ev) (a : Nat), L.foldl (fun s x => s + x.b.size) a = a + Ev.sum L
  | [], a => rfl
  | x :: L, a => by
    unfold Ev.sum
    rw [List.foldl_cons, Ev.sum_acc L (a + x.b.size), List.foldl_cons, Ev.sum_acc L (0 + x.b.size)]
    omega
theorem Ev.sum_append (L M : List Ev) : Ev.sum (L ++ M) = Ev.sum L + Ev.sum M := by
  unfold Ev.sum; rw [List.foldl_append, Ev.sum_acc]; rfl
theorem Ev.sum_take (L : List Ev) (m : Nat) : Ev.sum (L.take m) ≤ Ev.sum L := by
  have h := Ev.sum_append (L.take m) (L.drop m)
  rw [List.take_append_drop] at h; omega
theorem Ev.sum_drop (L : List Ev) (m : Nat) : Ev.sum (L.drop m) ≤ Ev.sum L := by
  have h := Ev.sum_append (L.take m) (L.drop m)
  rw [List.take_append_drop] at h; omega
theorem Ev.sum_le {L : List Ev} {B : Nat} (h : ∀ x ∈ L, x.b.size ≤ B) : Ev.sum L ≤ L.length * B := by
  induction L with
  | nil => simp [Ev.sum]
  | cons x L ih =>
    have h1 := ih (fun y hy => h y (by simp [hy]))
    have h2 := h x (by simp)
    have h3 := Ev.sum_append [x] L
    have h4 : Ev.sum [x] = x.b.size := by simp [Ev.sum]
    rw [List.singleton_append] at h3
    rw [h3, h4, List.length_cons, Nat.add_mul]; omega
theorem Pj.rd_one (x : Ev) (T : List Ev) : (Pj.rd (Pj.one x T)).size ≤ (Pj.rd T).size + x.b.size := by
  unfold Pj.one; split
  · rw [Pj.rd_snoc]; split
    · rw [ByteArray.size_append]; omega
    · omega
  · omega
theorem Pj.tk_one (x : Ev) (T : List Ev) : (Pj.tk (Pj.one x T)).size ≤ (Pj.tk T).size + x.b.size := by
  unfold Pj.one; split
  · rw [Pj.tk_snoc]; split
    · rw [ByteArray.size_append]; omega
    · omega
  · omega
theorem Pj.told_le (id : Int) (L : List Ev) : (Pj.told id L).length ≤ L.length ∧ (Pj.rd (Pj.told id L)).size ≤ Ev.sum L ∧ (Pj.tk (Pj.told id L)).size ≤ Ev.sum L := by
  have key : ∀ m, m ≤ L.length → (Pj.told id (L.take m)).length ≤ m ∧ (Pj.rd (Pj.told id (L.take m))).size ≤ Ev.sum (L.take m) ∧ (Pj.tk (Pj.told id (L.take m))).size ≤ Ev.sum (L.take m) := by
    intro m
    induction m with
    | zero => intro _; rw [List.take_zero]; exact ⟨Nat.le_refl _, Nat.le_refl _, Nat.le_refl _⟩
    | succ m ih =>
      intro h
      obtain ⟨h1, h2, h3⟩ := ih (by omega)
      rw [List.take_succ_eq_append_getElem (by omega), Pj.told_snoc, Ev.sum_snoc]
      refine ⟨Nat.le_trans (Pj.step_len _ _ _) (by omega), ?_, ?_⟩
      · unfold Pj.step; split
        · exact Nat.le_trans (Pj.rd_one _ _) (by omega)
        · omega
      · unfold Pj.step; split
        · exact Nat.le_trans (Pj.tk_one _ _) (by omega)
        · omega
  have := key L.length (Nat.le_refl _)
  rwa [List.take_length] at this
theorem rn_ty {w : World} {g c sz : Nat} {L : List Value} {T : TypeId} {cs : List Value} {U : TypeId} (h : Rn w g c sz L T) (k : Blk w g cs U) : T = U := by
  obtain ⟨r, _, _, h⟩ := h
  unfold Blk at *
  rw [h] at k
  have := Option.some.inj k
  injection this
theorem rm_ty {w : World} {B : Nat} {r : Option Addr} {n c sz : Nat} {L : List Value} {T : TypeId} {g : Nat} {cs : List Value} {U : TypeId} (h : RM w B r n c sz L T) (k : Blk w g cs U) (hne : T ≠ U) : g ∉ rvB r := fun hg => by
  obtain ⟨_, _, h2 | ⟨g2, h2, _, h4⟩⟩ := h
  · rw [h2.1] at hg; simp [rvB] at hg
  · rw [h2, rvB_some] at hg; simp at hg; subst hg; exact hne (rn_ty h4 k)
theorem rm_ne {w : World} {B : Nat} {r : Option Addr} {n c sz : Nat} {L : List Value} {T : TypeId} {B' : Nat} {r' : Option Addr} {n' c' sz' : Nat} {L' : List Value} {T' : TypeId} (h : RM w B r n c sz L T) (k : RM w B' r' n' c' sz' L' T') (hne : T ≠ T') : ∀ g ∈ rvB r, g ∉ rvB r' := fun g hg => by
  obtain ⟨_, _, k2 | ⟨g2, k2, _, k4⟩⟩ := k
  · rw [k2.1]; simp [rvB]
  · obtain ⟨rest, _, _, hb⟩ := k4
    rw [k2, rvB_some]; simp
    intro e; subst e
    exact rm_ty h hb hne hg
/-- The blocks of the object. -/
def toB (p : Nat) (r1 r2 r3 r4 r5 : Option Addr) : List Nat := p :: (rvB r1 ++ (rvB r2 ++ (rvB r3 ++ (rvB r4 ++ rvB r5))))
/-- The object in block p, with its five rows; since w0 none but the blocks of b0 changed, and what is its own lies in b0 or is new. -/
structure TO (w0 : World) (b0 : List Nat) (w : World) (B p : Nat) (id sc fr : Int) (eo : Bool) (st : Int) (r1 : Option Addr) (n1 c1 : Nat) (L1 : List Value) (r2 : Option Addr) (n2 c2 : Nat) (L2 : List Value) (r3 : Option Addr) (n3 c3 : Nat) (L3 : List Value) (r4 : Option Addr) (n4 c4 : Nat) (L4 : List Value) (r5 : Option Addr) (n5 c5 : Nat) (L5 : List Value) : Prop where
  blk : Blk w p [.int .i64 id, .int .i64 sc, .int .i64 fr, .slice r1 n1 c1, .slice r2 n2 c2, .string ⟨#[]⟩, .string ⟨#[]⟩, .bool eo, .int .i64 st, .slice r3 n3 c3, .slice r4 n4 c4, .slice r5 n5 c5] 112
  m1 : RM w B r1 n1 c1 4 L1 90
  m2 : RM w B r2 n2 c2 6 L2 44
  m3 : RM w B r3 n3 c3 12 L3 46
  m4 : RM w B r4 n4 c4 1 L4 5
  m5 : RM w B r5 n5 c5 1 L5 5
  ap : ∀ g ∈ rvB r4, g ∉ rvB r5
  ch : Chg b0 w0 w
  fr0 : ∀ g ∈ toB p r1 r2 r3 r4 r5, g ∈ b0 ∨ w0.heap.size ≤ g
theorem TO.pB {w0 : World} {b0 : List Nat} {w : World} {B p : Nat} {id sc fr : Int} {eo : Bool} {st : Int} {r1 : Option Addr} {n1 c1 : Nat} {L1 : List Value} {r2 : Option Addr} {n2 c2 : Nat} {L2 : List Value} {r3 : Option Addr} {n3 c3 : Nat} {L3 : List Value} {r4 : Option Addr} {n4 c4 : Nat} {L4 : List Value} {r5 : Option Addr} {n5 c5 : Nat} {L5 : List Value} (h : TO w0 b0 w B p id sc fr eo st r1 n1 c1 L1 r2 n2 c2 L2 r3 n3 c3 L3 r4 n4 c4 L4 r5 n5 c5 L5) : p ∉ rvB r1 ∧ p ∉ rvB r2 ∧ p ∉ rvB r3 ∧ p ∉ rvB r4 ∧ p ∉ rvB r5 :=
  ⟨rm_ty h.m1 h.blk (by decide), rm_ty h.m2 h.blk (by decide), rm_ty h.m3 h.blk (by decide), rm_ty h.m4 h.blk (by decide), rm_ty h.m5 h.blk (by decide)⟩
/-- A change of other blocks. -/
theorem TO.chg {w0 : World} {b0 : List Nat} {w w' : World} {B p : Nat} {id sc fr : Int} {eo : Bool} {st : Int} {r1 : Option Addr} {n1 c1 : Nat} {L1 : List Value} {r2 : Option Addr} {n2 c2 : Nat} {L2 : List Value} {r3 : Option Addr} {n3 c3 : Nat} {L3 : List Value} {r4 : Option Addr} {n4 c4 : Nat} {L4 : List Value} {r5 : Option Addr} {n5 c5 : Nat} {L5 : List Value} (h : TO w0 b0 w B p id sc fr eo st r1 n1 c1 L1 r2 n2 c2 L2 r3 n3 c3 L3 r4 n4 c4 L4 r5 n5 c5 L5) {l : List Nat} (k : Chg l w w') (hl : ∀ g ∈ l, g ∉ toB p r1 r2 r3 r4 r5) (hl2 : ∀ g ∈ l, g ∈ b0 ∨ w0.heap.size ≤ g) : TO w0 b0 w' B p id sc fr eo st r1 n1 c1 L1 r2 n2 c2 L2 r3 n3 c3 L3 r4 n4 c4 L4 r5 n5 c5 L5 := by
  have go : ∀ g ∈ toB p r1 r2 r3 r4 r5, g ∉ l := fun g hg hgl => hl g hgl hg
  exact ⟨h.blk.chg k (go p (by simp [toB])), h.m1.chg k (fun g hg => go g (by simp [toB, hg])), h.m2.chg k (fun g hg => go g (by simp [toB, hg])), h.m3.chg k (fun g hg => go g (by simp [toB, hg])), h.m4.chg k (fun g hg => go g (by simp [toB, hg])), h.m5.chg k (fun g hg => go g (by simp [toB, hg])), h.ap, h.ch.trans k hl2, h.fr0⟩
theorem TO.same {w0 : World} {b0 : List Nat} {w w' : World} {B p : Nat} {id sc fr : Int} {eo : Bool} {st : Int} {r1 : Option Addr} {n1 c1 : Nat} {L1 : List Value} {r2 : Option Addr} {n2 c2 : Nat} {L2 : List Value} {r3 : Option Addr} {n3 c3 : Nat} {L3 : List Value} {r4 : Option Addr} {n4 c4 : Nat} {L4 : List Value} {r5 : Option Addr} {n5 c5 : Nat} {L5 : List Value} (h : TO w0 b0 w B p id sc fr eo st r1 n1 c1 L1 r2 n2 c2 L2 r3 n3 c3 L3 r4 n4 c4 L4 r5 n5 c5 L5) (k : Chg [] w w') : TO w0 b0 w' B p id sc fr eo st r1 n1 c1 L1 r2 n2 c2 L2 r3 n3 c3 L3 r4 n4 c4 L4 r5 n5 c5 L5 := h.chg k (fun g hg => by simp at hg) (fun g hg => by simp at hg)
theorem TO.alloc {w0 : World} {b0 : List Nat} {w : World} {B p : Nat} {id sc fr : Int} {eo : Bool} {st : Int} {r1 : Option Addr} {n1 c1 : Nat} {L1 : List Value} {r2 : Option Addr} {n2 c2 : Nat} {L2 : List Value} {r3 : Option Addr} {n3 c3 : Nat} {L3 : List Value} {r4 : Option Addr} {n4 c4 : Nat} {L4 : List Value} {r5 : Option Addr} {n5 c5 : Nat} {L5 : List Value} (h : TO w0 b0 w B p id sc fr eo st r1 n1 c1 L1 r2 n2 c2 L2 r3 n3 c3 L3 r4 n4 c4 L4 r5 n5 c5 L5) (o : Obj) : TO w0 b0 (w.alloc o) B p id sc fr eo st r1 n1 c1 L1 r2 n2 c2 L2 r3 n3 c3 L3 r4 n4 c4 L4 r5 n5 c5 L5 := h.same ((Chg.refl [] w).alloc o)
theorem TO.drew {w0 : World} {b0 : List Nat} {w : World} {B p : Nat} {id sc fr : Int} {eo : Bool} {st : Int} {r1 : Option Addr} {n1 c1 : Nat} {L1 : List Value} {r2 : Option Addr} {n2 c2 : Nat} {L2 : List Value} {r3 : Option Addr} {n3 c3 : Nat} {L3 : List Value} {r4 : Option Addr} {n4 c4 : Nat} {L4 : List Value} {r5 : Option Addr} {n5 c5 : Nat} {L5 : List Value} (h : TO w0 b0 w B p id sc fr eo st r1 n1 c1 L1 r2 n2 c2 L2 r3 n3 c3 L3 r4 n4 c4 L4 r5 n5 c5 L5) : TO w0 b0 w.drew B p id sc fr eo st r1 n1 c1 L1 r2 n2 c2 L2 r3 n3 c3 L3 r4 n4 c4 L4 r5 n5 c5 L5 := h.same ((Chg.refl [] w).drew)
/-- A block elsewhere that is written. -/
theorem TO.setO {w0 : World} {b0 : List Nat} {w : World} {B p : Nat} {id sc fr : Int} {eo : Bool} {st : Int} {r1 : Option Addr} {n1 c1 : Nat} {L1 : List Value} {r2 : Option Addr} {n2 c2 : Nat} {L2 : List Value} {r3 : Option Addr} {n3 c3 : Nat} {L3 : List Value} {r4 : Option Addr} {n4 c4 : Nat} {L4 : List Value} {r5 : Option Addr} {n5 c5 : Nat} {L5 : List Value} (h : TO w0 b0 w B p id sc fr eo st r1 n1 c1 L1 r2 n2 c2 L2 r3 n3 c3 L3 r4 n4 c4 L4 r5 n5 c5 L5) {x : Nat} (hx : w0.heap.size ≤ x) (hx2 : x ∉ toB p r1 r2 r3 r4 r5) (i : Nat) (v : Value) : TO w0 b0 (w.setCell ⟨x, i, none⟩ v) B p id sc fr eo st r1 n1 c1 L1 r2 n2 c2 L2 r3 n3 c3 L3 r4 n4 c4 L4 r5 n5 c5 L5 :=
  h.chg ((Chg.refl [x] w).set (Or.inl (by simp)) i v) (by simp; exact hx2) (by simp; exact Or.inr hx)
theorem TO.setP {w0 : World} {b0 : List Nat} {w : World} {B p : Nat} {id sc fr : Int} {eo : Bool} {st : Int} {r1 : Option Addr} {n1 c1 : Nat} {L1 : List Value} {r2 : Option Addr} {n2 c2 : Nat} {L2 : List Value} {r3 : Option Addr} {n3 c3 : Nat} {L3 : List Value} {r4 : Option Addr} {n4 c4 : Nat} {L4 : List Value} {r5 : Option Addr} {n5 c5 : Nat} {L5 : List Value} (h : TO w0 b0 w B p id sc fr eo st r1 n1 c1 L1 r2 n2 c2 L2 r3 n3 c3 L3 r4 n4 c4 L4 r5 n5 c5 L5) (eo' : Bool) : TO w0 b0 (w.setCell ⟨p, 7, none⟩ (.bool eo')) B p id sc fr eo' st r1 n1 c1 L1 r2 n2 c2 L2 r3 n3 c3 L3 r4 n4 c4 L4 r5 n5 c5 L5 := by
  obtain ⟨p1, p2, p3, p4, p5⟩ := h.pB
  have k : Chg [p] w (w.setCell ⟨p, 7, none⟩ (.bool eo')) := (Chg.refl [p] w).set (Or.inl (by simp)) _ _
  have go : ∀ {r : Option Addr}, p ∉ rvB r → ∀ g ∈ rvB r, g ∉ [p] := fun hp g hg h => by simp at h; subst h; exact hp hg
  exact ⟨h.blk.set 7 _, h.m1.chg k (go p1), h.m2.chg k (go p2), h.m3.chg k (go p3), h.m4.chg k (go p4), h.m5.chg k (go p5), h.ap, h.ch.trans k (by simp; exact h.fr0 p (by simp [toB])), h.fr0⟩
theorem TO.setS {w0 : World} {b0 : List Nat} {w : World} {B p : Nat} {id sc fr : Int} {eo : Bool} {st : Int} {r1 : Option Addr} {n1 c1 : Nat} {L1 : List Value} {r2 : Option Addr} {n2 c2 : Nat} {L2 : List Value} {r3 : Option Addr} {n3 c3 : Nat} {L3 : List Value} {r4 : Option Addr} {n4 c4 : Nat} {L4 : List Value} {r5 : Option Addr} {n5 c5 : Nat} {L5 : List Value} (h : TO w0 b0 w B p id sc fr eo st r1 n1 c1 L1 r2 n2 c2 L2 r3 n3 c3 L3 r4 n4 c4 L4 r5 n5 c5 L5) (st' : Int) : TO w0 b0 (w.setCell ⟨p, 8, none⟩ (.int .i64 st')) B p id sc fr eo st' r1 n1 c1 L1 r2 n2 c2 L2 r3 n3 c3 L3 r4 n4 c4 L4 r5 n5 c5 L5 := by
  obtain ⟨p1, p2, p3, p4, p5⟩ := h.pB
  have k : Chg [p] w (w.setCell ⟨p, 8, none⟩ (.int .i64 st')) := (Chg.refl [p] w).set (Or.inl (by simp)) _ _
  have go : ∀ {r : Option Addr}, p ∉ rvB r → ∀ g ∈ rvB r, g ∉ [p] := fun hp g hg h => by simp at h; subst h; exact hp hg
  exact ⟨h.blk.set 8 _, h.m1.chg k (go p1), h.m2.chg k (go p2), h.m3.chg k (go p3), h.m4.chg k (go p4), h.m5.chg k (go p5), h.ap, h.ch.trans k (by simp; exact h.fr0 p (by simp [toB])), h.fr0⟩
/-- Row 1 has grown and is stored. -/
theorem TO.grow1 {w0 : World} {b0 : List Nat} {w w' : World} {B p : Nat} {id sc fr : Int} {eo : Bool} {st : Int} {r1 : Option Addr} {n1 c1 : Nat} {L1 : List Value} {r2 : Option Addr} {n2 c2 : Nat} {L2 : List Value} {r3 : Option Addr} {n3 c3 : Nat} {L3 : List Value} {r4 : Option Addr} {n4 c4 : Nat} {L4 : List Value} {r5 : Option Addr} {n5 c5 : Nat} {L5 : List Value} (h : TO w0 b0 w B p id sc fr eo st r1 n1 c1 L1 r2 n2 c2 L2 r3 n3 c3 L3 r4 n4 c4 L4 r5 n5 c5 L5) {r' : Option Addr} {m c' : Nat} {M : List Value} (hr : RM w' B r' m c' 4 M 90) (hg : ∀ g ∈ rvB r', g ∈ rvB r1 ∨ w.heap.size ≤ g) (k : Chg (rvB r1) w w') :
    TO w0 b0 (w'.setCell ⟨p, 3, none⟩ (.slice r' m c')) B p id sc fr eo st r' m c' M r2 n2 c2 L2 r3 n3 c3 L3 r4 n4 c4 L4 r5 n5 c5 L5 := by
  obtain ⟨p1, p2, p3, p4, p5⟩ := h.pB
  have hp := h.blk.lt
  have hb' := h.blk.chg k p1
  have q2 := h.m2.chg k (rm_ne h.m2 h.m1 (by decide))
  have q3 := h.m3.chg k (rm_ne h.m3 h.m1 (by decide))
  have q4 := h.m4.chg k (rm_ne h.m4 h.m1 (by decide))
  have q5 := h.m5.chg k (rm_ne h.m5 h.m1 (by decide))
  have k2 : Chg [p] w' (w'.setCell ⟨p, 3, none⟩ (.slice r' m c')) := (Chg.refl [p] w').set (Or.inl (by simp)) _ _
  have go : ∀ {r : Option Addr}, p ∉ rvB r → ∀ g ∈ rvB r, g ∉ [p] := fun hp g hg h => by simp at h; subst h; exact hp hg
  have pg : p ∉ rvB r' := fun e => by
    rcases hg _ e with hg | hg
    · exact p1 hg
    · omega
  have hsub : ∀ g ∈ rvB r1, g ∈ b0 ∨ w0.heap.size ≤ g := fun g hg => h.fr0 g (by simp [toB, hg])
  have hw0 := h.ch.size
  have hfresh : ∀ {r : Option Addr}, (∀ g ∈ rvB r, g < w.heap.size) → (∀ g ∈ rvB r, g ∉ rvB r1) → ∀ g ∈ rvB r, g ∉ rvB r' := fun h1 h2 g hg2 e => by
    rcases hg _ e with hh | hh
    · exact h2 _ hg2 hh
    · have := h1 _ hg2; omega
  refine ⟨hb'.set 3 _, hr.chg k2 (go pg), q2.chg k2 (go p2), q3.chg k2 (go p3), q4.chg k2 (go p4), q5.chg k2 (go p5), h.ap, (h.ch.trans k hsub).trans k2 (by simp; exact h.fr0 p (by simp [toB])), fun g hg2 => ?_⟩
  simp only [toB, List.mem_cons, List.mem_append] at hg2
  have hf := h.fr0
  simp only [toB, List.mem_cons, List.mem_append] at hf
  rcases hg2 with e | e | e | e | e | e
  · exact hf g (by simp [e])
  · rcases hg _ e with hg | hg
    · exact hsub _ hg
    · exact Or.inr (by omega)
  · exact hf g (by simp [e])
  · exact hf g (by simp [e])
  · exact hf g (by simp [e])
  · exact hf g (by simp [e])
/-- Row 2 has grown and is stored. -/
theorem TO.grow2 {w0 : World} {b0 : List Nat} {w w' : World} {B p : Nat} {id sc fr : Int} {eo : Bool} {st : Int} {r1 : Option Addr} {n1 c1 : Nat} {L1 : List Value} {r2 : Option Addr} {n2 c2 : Nat} {L2 : List Value} {r3 : Option Addr} {n3 c3 : Nat} {L3 : List Value} {r4 : Option Addr} {n4 c4 : Nat} {L4 : List Value} {r5 : Option Addr} {n5 c5 : Nat} {L5 : List Value} (h : TO w0 b0 w B p id sc fr eo st r1 n1 c1 L1 r2 n2 c2 L2 r3 n3 c3 L3 r4 n4 c4 L4 r5 n5 c5 L5) {r' : Option Addr} {m c' : Nat} {M : List Value} (hr : RM w' B r' m c' 6 M 44) (hg : ∀ g ∈ rvB r', g ∈ rvB r2 ∨ w.heap.size ≤ g) (k : Chg (rvB r2) w w') :
    TO w0 b0 (w'.setCell ⟨p, 4, none⟩ (.slice r' m c')) B p id sc fr eo st r1 n1 c1 L1 r' m c' M r3 n3 c3 L3 r4 n4 c4 L4 r5 n5 c5 L5 := by
  obtain ⟨p1, p2, p3, p4, p5⟩ := h.pB
  have hp := h.blk.lt
  have hb' := h.blk.chg k p2
  have q1 := h.m1.chg k (rm_ne h.m1 h.m2 (by decide))
  have q3 := h.m3.chg k (rm_ne h.m3 h.m2 (by decide))
  have q4 := h.m4.chg k (rm_ne h.m4 h.m2 (by decide))
  have q5 := h.m5.chg k (rm_ne h.m5 h.m2 (by decide))
  have k2 : Chg [p] w' (w'.setCell ⟨p, 4, none⟩ (.slice r' m c')) := (Chg.refl [p] w').set (Or.inl (by simp)) _ _
  have go : ∀ {r : Option Addr}, p ∉ rvB r → ∀ g ∈ rvB r, g ∉ [p] := fun hp g hg h => by simp at h; subst h; exact hp hg
  have pg : p ∉ rvB r' := fun e => by
    rcases hg _ e with hg | hg
    · exact p2 hg
    · omega
  have hsub : ∀ g ∈ rvB r2, g ∈ b0 ∨ w0.heap.size ≤ g := fun g hg => h.fr0 g (by simp [toB, hg])
  have hw0 := h.ch.size
  have hfresh : ∀ {r : Option Addr}, (∀ g ∈ rvB r, g < w.heap.size) → (∀ g ∈ rvB r, g ∉ rvB r2) → ∀ g ∈ rvB r, g ∉ rvB r' := fun h1 h2 g hg2 e => by
    rcases hg _ e with hh | hh
    · exact h2 _ hg2 hh
    · have := h1 _ hg2; omega
  refine ⟨hb'.set 4 _, q1.chg k2 (go p1), hr.chg k2 (go pg), q3.chg k2 (go p3), q4.chg k2 (go p4), q5.chg k2 (go p5), h.ap, (h.ch.trans k hsub).trans k2 (by simp; exact h.fr0 p (by simp [toB])), fun g hg2 => ?_⟩
  simp only [toB, List.mem_cons, List.mem_append] at hg2
  have hf := h.fr0
  simp only [toB, List.mem_cons, List.mem_append] at hf
  rcases hg2 with e | e | e | e | e | e
  · exact hf g (by simp [e])
  · exact hf g (by simp [e])
  · rcases hg _ e with hg | hg
    · exact hsub _ hg
    · exact Or.inr (by omega)
  · exact hf g (by simp [e])
  · exact hf g (by simp [e])
  · exact hf g (by simp [e])
/-- Row 3 has grown and is stored. -/
theorem TO.grow3 {w0 : World} {b0 : List Nat} {w w' : World} {B p : Nat} {id sc fr : Int} {eo : Bool} {st : Int} {r1 : Option Addr} {n1 c1 : Nat} {L1 : List Value} {r2 : Option Addr} {n2 c2 : Nat} {L2 : List Value} {r3 : Option Addr} {n3 c3 : Nat} {L3 : List Value} {r4 : Option Addr} {n4 c4 : Nat} {L4 : List Value} {r5 : Option Addr} {n5 c5 : Nat} {L5 : List Value} (h : TO w0 b0 w B p id sc fr eo st r1 n1 c1 L1 r2 n2 c2 L2 r3 n3 c3 L3 r4 n4 c4 L4 r5 n5 c5 L5) {r' : Option Addr} {m c' : Nat} {M : List Value} (hr : RM w' B r' m c' 12 M 46) (hg : ∀ g ∈ rvB r', g ∈ rvB r3 ∨ w.heap.size ≤ g) (k : Chg (rvB r3) w w') :
    TO w0 b0 (w'.setCell ⟨p, 9, none⟩ (.slice r' m c')) B p id sc fr eo st r1 n1 c1 L1 r2 n2 c2 L2 r' m c' M r4 n4 c4 L4 r5 n5 c5 L5 := by
  obtain ⟨p1, p2, p3, p4, p5⟩ := h.pB
  have hp := h.blk.lt
  have hb' := h.blk.chg k p3
  have q1 := h.m1.chg k (rm_ne h.m1 h.m3 (by decide))
  have q2 := h.m2.chg k (rm_ne h.m2 h.m3 (by decide))
  have q4 := h.m4.chg k (rm_ne h.m4 h.m3 (by decide))
  have q5 := h.m5.chg k (rm_ne h.m5 h.m3 (by decide))
  have k2 : Chg [p] w' (w'.setCell ⟨p, 9, none⟩ (.slice r' m c')) := (Chg.refl [p] w').set (Or.inl (by simp)) _ _
  have go : ∀ {r : Option Addr}, p ∉ rvB r → ∀ g ∈ rvB r, g ∉ [p] := fun hp g hg h => by simp at h; subst h; exact hp hg
  have pg : p ∉ rvB r' := fun e => by
    rcases hg _ e with hg | hg
    · exact p3 hg
    · omega
  have hsub : ∀ g ∈ rvB r3, g ∈ b0 ∨ w0.heap.size ≤ g := fun g hg => h.fr0 g (by simp [toB, hg])
  have hw0 := h.ch.size
  have hfresh : ∀ {r : Option Addr}, (∀ g ∈ rvB r, g < w.heap.size) → (∀ g ∈ rvB r, g ∉ rvB r3) → ∀ g ∈ rvB r, g ∉ rvB r' := fun h1 h2 g hg2 e => by
    rcases hg _ e with hh | hh
    · exact h2 _ hg2 hh
    · have := h1 _ hg2; omega
  refine ⟨hb'.set 9 _, q1.chg k2 (go p1), q2.chg k2 (go p2), hr.chg k2 (go pg), q4.chg k2 (go p4), q5.chg k2 (go p5), h.ap, (h.ch.trans k hsub).trans k2 (by simp; exact h.fr0 p (by simp [toB])), fun g hg2 => ?_⟩
  simp only [toB, List.mem_cons, List.mem_append] at hg2
  have hf := h.fr0
  simp only [toB, List.mem_cons, List.mem_append] at hf
  rcases hg2 with e | e | e | e | e | e
  · exact hf g (by simp [e])
  · exact hf g (by simp [e])
  · exact hf g (by simp [e])
  · rcases hg _ e with hg | hg
    · exact hsub _ hg
    · exact Or.inr (by omega)
  · exact hf g (by simp [e])
  · exact hf g (by simp [e])
/-- Row 4 has grown and is stored. -/
theorem TO.grow4 {w0 : World} {b0 : List Nat} {w w' : World} {B p : Nat} {id sc fr : Int} {eo : Bool} {st : Int} {r1 : Option Addr} {n1 c1 : Nat} {L1 : List Value} {r2 : Option Addr} {n2 c2 : Nat} {L2 : List Value} {r3 : Option Addr} {n3 c3 : Nat} {L3 : List Value} {r4 : Option Addr} {n4 c4 : Nat} {L4 : List Value} {r5 : Option Addr} {n5 c5 : Nat} {L5 : List Value} (h : TO w0 b0 w B p id sc fr eo st r1 n1 c1 L1 r2 n2 c2 L2 r3 n3 c3 L3 r4 n4 c4 L4 r5 n5 c5 L5) {r' : Option Addr} {m c' : Nat} {M : List Value} (hr : RM w' B r' m c' 1 M 5) (hg : ∀ g ∈ rvB r', g ∈ rvB r4 ∨ w.heap.size ≤ g) (k : Chg (rvB r4) w w') :
    TO w0 b0 (w'.setCell ⟨p, 10, none⟩ (.slice r' m c')) B p id sc fr eo st r1 n1 c1 L1 r2 n2 c2 L2 r3 n3 c3 L3 r' m c' M r5 n5 c5 L5 := by
  obtain ⟨p1, p2, p3, p4, p5⟩ := h.pB
  have hp := h.blk.lt
  have hb' := h.blk.chg k p4
  have q1 := h.m1.chg k (rm_ne h.m1 h.m4 (by decide))
  have q2 := h.m2.chg k (rm_ne h.m2 h.m4 (by decide))
  have q3 := h.m3.chg k (rm_ne h.m3 h.m4 (by decide))
  have q5 := h.m5.chg k (fun g hg hg2 => h.ap g hg2 hg)
  have k2 : Chg [p] w' (w'.setCell ⟨p, 10, none⟩ (.slice r' m c')) := (Chg.refl [p] w').set (Or.inl (by simp)) _ _
  have go : ∀ {r : Option Addr}, p ∉ rvB r → ∀ g ∈ rvB r, g ∉ [p] := fun hp g hg h => by simp at h; subst h; exact hp hg
  have pg : p ∉ rvB r' := fun e => by
    rcases hg _ e with hg | hg
    · exact p4 hg
    · omega
  have hsub : ∀ g ∈ rvB r4, g ∈ b0 ∨ w0.heap.size ≤ g := fun g hg => h.fr0 g (by simp [toB, hg])
  have hw0 := h.ch.size
  have hfresh : ∀ {r : Option Addr}, (∀ g ∈ rvB r, g < w.heap.size) → (∀ g ∈ rvB r, g ∉ rvB r4) → ∀ g ∈ rvB r, g ∉ rvB r' := fun h1 h2 g hg2 e => by
    rcases hg _ e with hh | hh
    · exact h2 _ hg2 hh
    · have := h1 _ hg2; omega
  refine ⟨hb'.set 10 _, q1.chg k2 (go p1), q2.chg k2 (go p2), q3.chg k2 (go p3), hr.chg k2 (go pg), q5.chg k2 (go p5), (fun g hg hh => hfresh (r := r5) (fun g hg => (h.m5.lt g hg).2) (fun g hg hg2 => h.ap g hg2 hg) _ hh hg), (h.ch.trans k hsub).trans k2 (by simp; exact h.fr0 p (by simp [toB])), fun g hg2 => ?_⟩
  simp only [toB, List.mem_cons, List.mem_append] at hg2
  have hf := h.fr0
  simp only [toB, List.mem_cons, List.mem_append] at hf
  rcases hg2 with e | e | e | e | e | e
  · exact hf g (by simp [e])
  · exact hf g (by simp [e])
  · exact hf g (by simp [e])
  · exact hf g (by simp [e])
  · rcases hg _ e with hg | hg
    · exact hsub _ hg
    · exact Or.inr (by omega)
  · exact hf g (by simp [e])
/-- Row 5 has grown and is stored. -/
theorem TO.grow5 {w0 : World} {b0 : List Nat} {w w' : World} {B p : Nat} {id sc fr : Int} {eo : Bool} {st : Int} {r1 : Option Addr} {n1 c1 : Nat} {L1 : List Value} {r2 : Option Addr} {n2 c2 : Nat} {L2 : List Value} {r3 : Option Addr} {n3 c3 : Nat} {L3 : List Value} {r4 : Option Addr} {n4 c4 : Nat} {L4 : List Value} {r5 : Option Addr} {n5 c5 : Nat} {L5 : List Value} (h : TO w0 b0 w B p id sc fr eo st r1 n1 c1 L1 r2 n2 c2 L2 r3 n3 c3 L3 r4 n4 c4 L4 r5 n5 c5 L5) {r' : Option Addr} {m c' : Nat} {M : List Value} (hr : RM w' B r' m c' 1 M 5) (hg : ∀ g ∈ rvB r', g ∈ rvB r5 ∨ w.heap.size ≤ g) (k : Chg (rvB r5) w w') :
    TO w0 b0 (w'.setCell ⟨p, 11, none⟩ (.slice r' m c')) B p id sc fr eo st r1 n1 c1 L1 r2 n2 c2 L2 r3 n3 c3 L3 r4 n4 c4 L4 r' m c' M := by
  obtain ⟨p1, p2, p3, p4, p5⟩ := h.pB
  have hp := h.blk.lt
  have hb' := h.blk.chg k p5
  have q1 := h.m1.chg k (rm_ne h.m1 h.m5 (by decide))
  have q2 := h.m2.chg k (rm_ne h.m2 h.m5 (by decide))
  have q3 := h.m3.chg k (rm_ne h.m3 h.m5 (by decide))
  have q4 := h.m4.chg k (h.ap)
  have k2 : Chg [p] w' (w'.setCell ⟨p, 11, none⟩ (.slice r' m c')) := (Chg.refl [p] w').set (Or.inl (by simp)) _ _
  have go : ∀ {r : Option Addr}, p ∉ rvB r → ∀ g ∈ rvB r, g ∉ [p] := fun hp g hg h => by simp at h; subst h; exact hp hg
  have pg : p ∉ rvB r' := fun e => by
    rcases hg _ e with hg | hg
    · exact p5 hg
    · omega
  have hsub : ∀ g ∈ rvB r5, g ∈ b0 ∨ w0.heap.size ≤ g := fun g hg => h.fr0 g (by simp [toB, hg])
  have hw0 := h.ch.size
  have hfresh : ∀ {r : Option Addr}, (∀ g ∈ rvB r, g < w.heap.size) → (∀ g ∈ rvB r, g ∉ rvB r5) → ∀ g ∈ rvB r, g ∉ rvB r' := fun h1 h2 g hg2 e => by
    rcases hg _ e with hh | hh
    · exact h2 _ hg2 hh
    · have := h1 _ hg2; omega
  refine ⟨hb'.set 11 _, q1.chg k2 (go p1), q2.chg k2 (go p2), q3.chg k2 (go p3), q4.chg k2 (go p4), hr.chg k2 (go pg), (fun g hg => hfresh (r := r4) (fun g hg => (h.m4.lt g hg).2) h.ap g hg), (h.ch.trans k hsub).trans k2 (by simp; exact h.fr0 p (by simp [toB])), fun g hg2 => ?_⟩
  simp only [toB, List.mem_cons, List.mem_append] at hg2
  have hf := h.fr0
  simp only [toB, List.mem_cons, List.mem_append] at hf
  rcases hg2 with e | e | e | e | e | e
  · exact hf g (by simp [e])
  · exact hf g (by simp [e])
  · exact hf g (by simp [e])
  · exact hf g (by simp [e])
  · exact hf g (by simp [e])
  · rcases hg _ e with hg | hg
    · exact hsub _ hg
    · exact Or.inr (by omega)
theorem TO.lt {w0 : World} {b0 : List Nat} {w : World} {B p : Nat} {id sc fr : Int} {eo : Bool} {st : Int} {r1 : Option Addr} {n1 c1 : Nat} {L1 : List Value} {r2 : Option Addr} {n2 c2 : Nat} {L2 : List Value} {r3 : Option Addr} {n3 c3 : Nat} {L3 : List Value} {r4 : Option Addr} {n4 c4 : Nat} {L4 : List Value} {r5 : Option Addr} {n5 c5 : Nat} {L5 : List Value} (h : TO w0 b0 w B p id sc fr eo st r1 n1 c1 L1 r2 n2 c2 L2 r3 n3 c3 L3 r4 n4 c4 L4 r5 n5 c5 L5) : ∀ g ∈ toB p r1 r2 r3 r4 r5, g < w.heap.size := by
  intro g hg
  simp only [toB, List.mem_cons, List.mem_append] at hg
  rcases hg with e | e | e | e | e | e
  · subst e; exact h.blk.lt
  · exact (h.m1.lt g e).2
  · exact (h.m2.lt g e).2
  · exact (h.m3.lt g e).2
  · exact (h.m4.lt g e).2
  · exact (h.m5.lt g e).2
/-- What is gathered: the object and what T says. -/
def TK (w0 : World) (b0 : List Nat) (w : World) (B p : Nat) (id sc fr : Int) (T : List Ev) : Prop := ∃ r1 c1 r2 c2 r3 c3 r4 c4 r5 c5, TO w0 b0 w B p id sc fr (Pj.eof T) (Pj.ss T) r1 T.length c1 (Pj.ins T) r2 (Pj.stE T).length c2 (Pj.sts T) r3 T.length c3 (evs T) r4 (Pj.rd T).size c4 (bv (Pj.rd T)) r5 (Pj.tk T).size c5 (bv (Pj.tk T))
end Go.Proofs.YtdchedkhlfmpeaaDoor
