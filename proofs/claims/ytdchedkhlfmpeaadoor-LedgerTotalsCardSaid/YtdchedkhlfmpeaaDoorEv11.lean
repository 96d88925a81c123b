/- Events: the document on lives: what is gathered. -/
import Derived.Test.YtdchedkhlfmpeaaDoorEv10
import Derived.Test.YtdchedkhlfmpeaaDoorEnv
import Derived.WalkKit
import Derived.ProofKit
import Derived.Handy
import Derived.WalkLawsBesides
import Derived.WalkSpells
import Derived.Lib.Hide
import Derived.Lib.SliceRun
import Derived.Deep.RegionLaw
import Derived.RegionTactic
import Derived.ChangeAlike
import Derived.WalkSmall
import Derived.Deep.QuietTactic
import Derived.BigQuiet
import Derived.OwnWalk
import Derived.Outline
import Derived.Deep.CutRange
import Derived.Deep.CutBlock
import Derived.LoopTactic
namespace Go.Proofs.YtdchedkhlfmpeaaDoor
open Go.ChangeShapes Go.WideShapes Go.ChangeAt Go.RowKit
set_option linter.unusedSimpArgs false
set_option linter.unusedVariables false

/-- What an event's input should come to. -/
def Pj.waC (x : Ev) : List Value := if x.k = 4 then [.int .i64 (x.b.size : Int), .string ⟨#[]⟩, .int .i64 0, .int .i64 0, .int .i64 0, .int .i64 0, .int .i64 0, .int .i64 0, .bool false] else if x.k = 5 then [.int .i64 0, .string ⟨#[]⟩, .int .i64 0, .int .i64 0, .int .i64 0, .int .i64 0, .int .i64 0, .int .i64 0, .bool true] else if x.k = 6 then [.int .i64 0, .string x.b, .int .i64 0, .int .i64 0, .int .i64 0, .int .i64 0, .int .i64 0, .int .i64 0, .bool false] else if x.k = 8 then [.int .i64 0, .string ⟨#[]⟩, .int .i64 x.s0, .int .i64 x.s1, .int .i64 x.s2, .int .i64 x.s3, .int .i64 x.s4, .int .i64 x.s5, .bool true] else [.int .i64 0, .string ⟨#[]⟩, .int .i64 0, .int .i64 0, .int .i64 0, .int .i64 0, .int .i64 0, .int .i64 0, .bool false]
def Pj.was (T : List Ev) : List Value := T.flatMap Pj.waC
theorem Pj.was_snoc (T : List Ev) (x : Ev) : Pj.was (T ++ [x]) = Pj.was T ++ Pj.waC x := by unfold Pj.was; rw [List.flatMap_append]; simp
theorem Pj.waC_len (x : Ev) : (Pj.waC x).length = 9 := by unfold Pj.waC; repeat (first | rfl | split)
theorem Pj.life_snoc (id : Int) (M : List Ev) (x : Ev) : Pj.life id (M ++ [x]) = match Pj.life id M with
    | none => if Pj.opens id x = true then some (x.n, Ev.clock M, []) else none
    | some (sc, fr, T) => some (sc, fr, Pj.step id T x) := by
  have one : ∀ y : Ev, Pj.opens id y = true → Pj.step id [] y = [] := fun y h => by
    unfold Pj.opens at h
    simp only [Bool.and_eq_true, beq_iff_eq] at h
    unfold Pj.step Pj.one
    simp [h.1]
  have key : ∀ (M : List Ev) (c : Int), Pj.scan id c (M ++ [x]) = match Pj.scan id c M with
      | none => if Pj.opens id x = true then some (x.n, M.foldl (fun c x => if x.k = 1 then x.t else c) c, []) else none
      | some (sc, fr, T) => some (sc, fr, Pj.step id T x) := by
    intro M
    induction M with
    | nil =>
      intro c
      show Pj.scan id c [x] = _
      unfold Pj.scan
      by_cases ho : Pj.opens id x = true
      · rw [if_pos ho]
        simp only [Pj.scan, ho, if_true, List.foldl_nil]
        unfold Pj.told
        rw [List.foldl_cons, one x ho]
        rfl
      · rw [if_neg ho]; simp [Pj.scan, ho]
    | cons y M ih =>
      intro c
      rw [List.cons_append]
      unfold Pj.scan
      by_cases ho : Pj.opens id y = true
      · rw [if_pos ho, if_pos ho]
        simp only [Option.some.injEq, Prod.mk.injEq, true_and]
        rw [← List.cons_append, Pj.told_snoc]
      · rw [if_neg ho, if_neg ho, ih]
        rfl
  rw [Pj.life_scan, Pj.life_scan, key M 0]
  rfl
theorem Pj.life_nil (id : Int) : Pj.life id [] = none := rfl
/-- The document's object in block F, with its three rows. -/
structure RO (w0 w : World) (B F : Nat) (id sc fr : Int) (rd tk : ByteArray) (eo : Bool) (st : Int) (r1 : Option Addr) (n1 c1 : Nat) (L1 : List Value) (r2 : Option Addr) (n2 c2 : Nat) (L2 : List Value) (r3 : Option Addr) (n3 c3 : Nat) (L3 : List Value) : Prop where
  blk : Blk w F [.int .i64 id, .int .i64 sc, .int .i64 fr, .slice r1 n1 c1, .slice r2 n2 c2, .slice r3 n3 c3, .string rd, .string tk, .bool eo, .int .i64 st] 58
  m1 : RM w B r1 n1 c1 4 L1 90
  m2 : RM w B r2 n2 c2 9 L2 92
  m3 : RM w B r3 n3 c3 6 L3 44
  be : Below B w0 w
  FB : B ≤ F
  le : B ≤ w.heap.size
theorem RO.below {w0 w : World} {B F : Nat} {id sc fr : Int} {rd tk : ByteArray} {eo : Bool} {st : Int} {r1 : Option Addr} {n1 c1 : Nat} {L1 : List Value} {r2 : Option Addr} {n2 c2 : Nat} {L2 : List Value} {r3 : Option Addr} {n3 c3 : Nat} {L3 : List Value} (h : RO w0 w B F id sc fr rd tk eo st r1 n1 c1 L1 r2 n2 c2 L2 r3 n3 c3 L3) {w' : World} (k : Below w.heap.size w w') : RO w0 w' B F id sc fr rd tk eo st r1 n1 c1 L1 r2 n2 c2 L2 r3 n3 c3 L3 :=
  ⟨h.blk.below k h.blk.lt, h.m1.chg (Chg.of_fresh (l := []) k) (by simp), h.m2.chg (Chg.of_fresh (l := []) k) (by simp), h.m3.chg (Chg.of_fresh (l := []) k) (by simp), h.be.trans (k.mono h.le), h.FB, Nat.le_trans h.le k.size⟩
theorem RO.rd_set {w0 w : World} {B F : Nat} {id sc fr : Int} {rd tk : ByteArray} {eo : Bool} {st : Int} {r1 : Option Addr} {n1 c1 : Nat} {L1 : List Value} {r2 : Option Addr} {n2 c2 : Nat} {L2 : List Value} {r3 : Option Addr} {n3 c3 : Nat} {L3 : List Value} (h : RO w0 w B F id sc fr rd tk eo st r1 n1 c1 L1 r2 n2 c2 L2 r3 n3 c3 L3) (rd' : ByteArray) : RO w0 (w.setCell ⟨F, 6, none⟩ (.string rd')) B F id sc fr rd' tk eo st r1 n1 c1 L1 r2 n2 c2 L2 r3 n3 c3 L3 := by
  have k : Chg [F] w (w.setCell ⟨F, 6, none⟩ (.string rd')) := (Chg.refl [F] w).set (Or.inl (by simp)) _ _
  have go : ∀ {r : Option Addr} {n c sz : Nat} {L : List Value} {T : TypeId}, RM w B r n c sz L T → T ≠ 58 → ∀ g ∈ rvB r, g ∉ [F] := fun hm hT g hg h2 => by simp at h2; subst h2; exact rm_ty hm h.blk hT hg
  exact ⟨h.blk.set 6 _, h.m1.chg k (go h.m1 (by decide)), h.m2.chg k (go h.m2 (by decide)), h.m3.chg k (go h.m3 (by decide)), k.onto h.be h.le (by simp; exact h.FB), h.FB, Nat.le_trans h.le k.size⟩
theorem RO.tk_set {w0 w : World} {B F : Nat} {id sc fr : Int} {rd tk : ByteArray} {eo : Bool} {st : Int} {r1 : Option Addr} {n1 c1 : Nat} {L1 : List Value} {r2 : Option Addr} {n2 c2 : Nat} {L2 : List Value} {r3 : Option Addr} {n3 c3 : Nat} {L3 : List Value} (h : RO w0 w B F id sc fr rd tk eo st r1 n1 c1 L1 r2 n2 c2 L2 r3 n3 c3 L3) (tk' : ByteArray) : RO w0 (w.setCell ⟨F, 7, none⟩ (.string tk')) B F id sc fr rd tk' eo st r1 n1 c1 L1 r2 n2 c2 L2 r3 n3 c3 L3 := by
  have k : Chg [F] w (w.setCell ⟨F, 7, none⟩ (.string tk')) := (Chg.refl [F] w).set (Or.inl (by simp)) _ _
  have go : ∀ {r : Option Addr} {n c sz : Nat} {L : List Value} {T : TypeId}, RM w B r n c sz L T → T ≠ 58 → ∀ g ∈ rvB r, g ∉ [F] := fun hm hT g hg h2 => by simp at h2; subst h2; exact rm_ty hm h.blk hT hg
  exact ⟨h.blk.set 7 _, h.m1.chg k (go h.m1 (by decide)), h.m2.chg k (go h.m2 (by decide)), h.m3.chg k (go h.m3 (by decide)), k.onto h.be h.le (by simp; exact h.FB), h.FB, Nat.le_trans h.le k.size⟩
/-- The steps grow; the row and the status are stored. -/
theorem RO.step3 {w0 w : World} {B F : Nat} {id sc fr : Int} {rd tk : ByteArray} {eo : Bool} {st : Int} {r1 : Option Addr} {n1 c1 : Nat} {L1 : List Value} {r2 : Option Addr} {n2 c2 : Nat} {L2 : List Value} {r3 : Option Addr} {n3 c3 : Nat} {L3 : List Value} (h : RO w0 w B F id sc fr rd tk eo st r1 n1 c1 L1 r2 n2 c2 L2 r3 n3 c3 L3) {w' : World} {r' : Option Addr} {m c' : Nat} {M : List Value} (hr : RM w' B r' m c' 6 M 44) (hg : ∀ g ∈ rvB r', g ∈ rvB r3 ∨ w.heap.size ≤ g) (k : Chg (rvB r3) w w') (st' : Int) : RO w0 ((w'.setCell ⟨F, 5, none⟩ (.slice r' m c')).setCell ⟨F, 9, none⟩ (.int .i64 st')) B F id sc fr rd tk eo st' r1 n1 c1 L1 r2 n2 c2 L2 r' m c' M := by
  have f1 := rm_ty h.m1 h.blk (by decide)
  have f2 := rm_ty h.m2 h.blk (by decide)
  have f3 := rm_ty h.m3 h.blk (by decide)
  have kc : Chg [F] w' ((w'.setCell ⟨F, 5, none⟩ (.slice r' m c')).setCell ⟨F, 9, none⟩ (.int .i64 st')) := ((Chg.refl [F] w').set (Or.inl (by simp)) _ _).set (Or.inl (by simp)) _ _
  have hb := h.blk.chg k f3
  have fr' := rm_ty hr hb (by decide)
  have go : ∀ {r : Option Addr}, F ∉ rvB r → ∀ g ∈ rvB r, g ∉ [F] := fun hp g hg h => by simp at h; subst h; exact hp hg
  have be' := k.onto h.be h.le (fun y hy => (h.m3.lt y hy).1)
  have le' := Nat.le_trans h.le k.size
  exact ⟨(hb.set 5 _).set 9 _, (h.m1.chg k (rm_ne h.m1 h.m3 (by decide))).chg kc (go f1), (h.m2.chg k (rm_ne h.m2 h.m3 (by decide))).chg kc (go f2), hr.chg kc (go fr'), kc.onto be' le' (by simp; exact h.FB), h.FB, Nat.le_trans le' kc.size⟩
end Go.Proofs.YtdchedkhlfmpeaaDoor
