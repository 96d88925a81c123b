/- Events: proj.Of. -/
import Derived.Test.YtdchedkhlfmpeaaDoorEv7
import Derived.WalkKit
import Derived.ProofKit
import Derived.Handy
import Derived.WalkLawsBesides
import Derived.WalkSpells
import Derived.Lib.Hide
import Derived.Lib.SliceRun
import Derived.Deep.RegionLaw
import Derived.RegionTactic
import Derived.ChangeAlike
import Derived.WalkSmall
import Derived.Deep.QuietTactic
import Derived.BigQuiet
import Derived.OwnWalk
import Derived.Outline
import Derived.Deep.CutRange
import Derived.Deep.CutBlock
import Derived.LoopTactic
namespace Go.Proofs.YtdchedkhlfmpeaaDoor
open Go.ChangeShapes Go.WideShapes Go.ChangeAt Go.RowKit
set_option linter.unusedSimpArgs false
set_option linter.unusedVariables false

/-- The life of id: its script, the tick, what was told. -/
def Pj.life (id : Int) (L : List Ev) : Option (Int × Int × List Ev) := match L.findIdx? (Pj.opens id) with
  | some j => some (((L[j]?).map Ev.n).getD 0, Ev.clock (L.take j), Pj.told id (L.drop j))
  | none => none
theorem Pj.life_none {id : Int} {L : List Ev} (h : Pj.life id L = none) : Ev.idx (Pj.opens id) L = -1 := by
  unfold Pj.life at h; unfold Ev.idx
  cases hh : L.findIdx? (Pj.opens id) with
  | some j => rw [hh] at h; cases h
  | none => rfl
theorem Pj.life_some {id : Int} {L : List Ev} {sc fr : Int} {T : List Ev} (h : Pj.life id L = some (sc, fr, T)) : ∃ (j : Nat) (x : Ev), Ev.idx (Pj.opens id) L = (j : Int) ∧ L[j]? = some x ∧ x.k = 2 ∧ x.i = id ∧ x.n = sc ∧ Ev.clock (L.take j) = fr ∧ Pj.told id (L.drop j) = T := by
  unfold Pj.life at h; unfold Ev.idx
  cases hh : L.findIdx? (Pj.opens id) with
  | none => rw [hh] at h; cases h
  | some j =>
    rw [hh] at h
    simp only [Option.some.injEq, Prod.mk.injEq] at h
    obtain ⟨hl, h1, _⟩ := List.findIdx?_eq_some_iff_getElem.1 hh
    have hx := List.getElem?_eq_getElem hl
    rw [hx] at h
    unfold Pj.opens at h1
    simp only [Bool.and_eq_true, beq_iff_eq] at h1
    exact ⟨j, L[j], rfl, hx, h1.1, h1.2, h.1, h.2.1, h.2.2⟩
theorem TK.back {w00 w0 : World} {w : World} {B p : Nat} {id sc fr : Int} {T : List Ev} (h : TK w0 [] w B p id sc fr T) (k : Chg [] w00 w0) : TK w00 [] w B p id sc fr T := by
  obtain ⟨r1, c1, r2, c2, r3, c3, r4, c4, r5, c5, h⟩ := h
  exact ⟨r1, c1, r2, c2, r3, c3, r4, c4, r5, c5, ⟨h.blk, h.m1, h.m2, h.m3, h.m4, h.m5, h.ap, k.trans h.ch (by simp), fun g hg => by
    rcases h.fr0 g hg with h1 | h1
    · exact Or.inl h1
    · exact Or.inr (Nat.le_trans k.size h1)⟩⟩
theorem TK.pge {w0 : World} {w : World} {B p : Nat} {id sc fr : Int} {T : List Ev} (h : TK w0 [] w B p id sc fr T) : w0.heap.size ≤ p := by
  obtain ⟨r1, c1, r2, c2, r3, c3, r4, c4, r5, c5, h⟩ := h
  rcases h.fr0 p (by simp [toB]) with h1 | h1
  · simp at h1
  · exact h1
theorem RM.base_le {w : World} {B B' : Nat} {r : Option Addr} {n c sz : Nat} {L : List Value} {T : TypeId} (h : RM w B r n c sz L T) (hB : B' ≤ B) : RM w B' r n c sz L T := by
  obtain ⟨h0, h1, h2 | ⟨g, h2, h3, h4⟩⟩ := h
  · exact ⟨h0, by omega, Or.inl h2⟩
  · exact ⟨h0, by omega, Or.inr ⟨g, h2, by omega, h4⟩⟩
theorem told_take_succ {id : Int} {M : List Ev} {j : Nat} {x : Ev} (h : M[j]? = some x) : Pj.told id (M.take (j + 1)) = if x.k = 7 ∨ x.i = id then Pj.one x (Pj.told id (M.take j)) else Pj.told id (M.take j) := by
  rw [take_snocE h, Pj.told_snoc]; rfl
set_option maxRecDepth 20000 in
set_option maxHeartbeats 16000000 in
theorem pj_of_none (a : Option Addr) (len cap : Nat) (L : List Ev) (hl : L.length = len) (hlm : len ≤ maxLen) (id : Int) (h : Pj.life id L = none) (w : World) (HE : EL w a L) :
    Calls Tryd.prog 23 #[.slice a len cap, .int .i64 id] w fun r w' => r = .returned (.tuple #[.agg #[.int .i64 0, .int .i64 0, .int .i64 0, .slice none 0 0, .slice none 0 0, .string ⟨#[]⟩, .string ⟨#[]⟩, .bool false, .int .i64 0], .bool false]) ∧ Below w.heap.size w w' := by
  have hi := Lib.hid (Pj.life_none h)
  unfold maxLen at *
  have H1 : Hid (Blk ((w.alloc (.cells #[.int .i64 id] 3)).alloc (.cells #[.int .i64 0, .int .i64 0, .int .i64 0, .slice none 0 0, .slice none 0 0, .string ⟨#[]⟩, .string ⟨#[]⟩, .bool false, .int .i64 0] 71)) w.heap.size [.int .i64 id] 3 ∧ Blk ((w.alloc (.cells #[.int .i64 id] 3)).alloc (.cells #[.int .i64 0, .int .i64 0, .int .i64 0, .slice none 0 0, .slice none 0 0, .string ⟨#[]⟩, .string ⟨#[]⟩, .bool false, .int .i64 0] 71)) (w.heap.size + 1) [.int .i64 0, .int .i64 0, .int .i64 0, .slice none 0 0, .slice none 0 0, .string ⟨#[]⟩, .string ⟨#[]⟩, .bool false, .int .i64 0] 71 ∧ Below w.heap.size w ((w.alloc (.cells #[.int .i64 id] 3)).alloc (.cells #[.int .i64 0, .int .i64 0, .int .i64 0, .slice none 0 0, .slice none 0 0, .string ⟨#[]⟩, .string ⟨#[]⟩, .bool false, .int .i64 0] 71)) ∧ EL ((w.alloc (.cells #[.int .i64 id] 3)).alloc (.cells #[.int .i64 0, .int .i64 0, .int .i64 0, .slice none 0 0, .slice none 0 0, .string ⟨#[]⟩, .string ⟨#[]⟩, .bool false, .int .i64 0] 71)) a L ∧ L.length = len) := Lib.hid (by
    have b1 := (Blk.newA w #[.int .i64 id] 3).alloc (.cells #[.int .i64 0, .int .i64 0, .int .i64 0, .slice none 0 0, .slice none 0 0, .string ⟨#[]⟩, .string ⟨#[]⟩, .bool false, .int .i64 0] 71)
    have b2 := Blk.newA (w.alloc (.cells #[.int .i64 id] 3)) #[.int .i64 0, .int .i64 0, .int .i64 0, .slice none 0 0, .slice none 0 0, .string ⟨#[]⟩, .string ⟨#[]⟩, .bool false, .int .i64 0] 71
    rw [World.size_alloc] at b2
    have k : Below w.heap.size w ((w.alloc (.cells #[.int .i64 id] 3)).alloc (.cells #[.int .i64 0, .int .i64 0, .int .i64 0, .slice none 0 0, .slice none 0 0, .string ⟨#[]⟩, .string ⟨#[]⟩, .bool false, .int .i64 0] 71)) := ((Below.refl _ _).alloc (Nat.le_refl _) _).alloc (by simp) _
    exact ⟨b1, b2, k, HE.below k, hl⟩)
  clear HE hl
  clear h
  go_enter Tryd.func23, Tryd.ntmps23
  go_upto_region 1 with fail
  revert H1
  generalize ((w.alloc (.cells #[.int .i64 id] 3)).alloc (.cells #[.int .i64 0, .int .i64 0, .int .i64 0, .slice none 0 0, .slice none 0 0, .string ⟨#[]⟩, .string ⟨#[]⟩, .bool false, .int .i64 0] 71)) = V
  intro H1
  go_wp2_with (first
    | (go_at_call 36; (refine (pj_idx a len cap L H1.out.2.2.2.2 (by unfold maxLen; omega) w.heap.size id (-1) hi.out _ H1.out.2.2.2.1 (H1.out.1.cell (i := 0) rfl)).mono ?_); rintro r4 W4 ⟨rfl, hb4⟩; have H2 : Hid (Blk W4 (w.heap.size + 1) [.int .i64 0, .int .i64 0, .int .i64 0, .slice none 0 0, .slice none 0 0, .string ⟨#[]⟩, .string ⟨#[]⟩, .bool false, .int .i64 0] 71 ∧ Below w.heap.size w W4) := Lib.hid ⟨H1.out.2.1.below hb4 H1.out.2.1.lt, H1.out.2.2.1.trans (hb4.mono H1.out.2.2.1.size)⟩; clear hb4; have z0 := H2.out.1.cell (i := 0) rfl; have fz0 := H2.out.1.free 0; have z1 := H2.out.1.cell (i := 1) rfl; have fz1 := H2.out.1.free 1; have z2 := H2.out.1.cell (i := 2) rfl; have fz2 := H2.out.1.free 2; have z3 := H2.out.1.cell (i := 3) rfl; have fz3 := H2.out.1.free 3; have z4 := H2.out.1.cell (i := 4) rfl; have fz4 := H2.out.1.free 4; have z5 := H2.out.1.cell (i := 5) rfl; have fz5 := H2.out.1.free 5; have z6 := H2.out.1.cell (i := 6) rfl; have fz6 := H2.out.1.free 6; have z7 := H2.out.1.cell (i := 7) rfl; have fz7 := H2.out.1.free 7; have z8 := H2.out.1.cell (i := 8) rfl; have fz8 := H2.out.1.free 8)
    | fail)
  have HZ : Hid (Blk (((((((((W4.setCell ⟨w.heap.size + 1, 0, none⟩ (.int .i64 0)).setCell ⟨w.heap.size + 1, 1, none⟩ (.int .i64 0)).setCell ⟨w.heap.size + 1, 2, none⟩ (.int .i64 0)).setCell ⟨w.heap.size + 1, 3, none⟩ (.slice none 0 0)).setCell ⟨w.heap.size + 1, 4, none⟩ (.slice none 0 0)).setCell ⟨w.heap.size + 1, 5, none⟩ (.string ⟨#[]⟩)).setCell ⟨w.heap.size + 1, 6, none⟩ (.string ⟨#[]⟩)).setCell ⟨w.heap.size + 1, 7, none⟩ (.bool false)).setCell ⟨w.heap.size + 1, 8, none⟩ (.int .i64 0)) (w.heap.size + 1) [.int .i64 0, .int .i64 0, .int .i64 0, .slice none 0 0, .slice none 0 0, .string ⟨#[]⟩, .string ⟨#[]⟩, .bool false, .int .i64 0] 71 ∧ Below w.heap.size w (((((((((W4.setCell ⟨w.heap.size + 1, 0, none⟩ (.int .i64 0)).setCell ⟨w.heap.size + 1, 1, none⟩ (.int .i64 0)).setCell ⟨w.heap.size + 1, 2, none⟩ (.int .i64 0)).setCell ⟨w.heap.size + 1, 3, none⟩ (.slice none 0 0)).setCell ⟨w.heap.size + 1, 4, none⟩ (.slice none 0 0)).setCell ⟨w.heap.size + 1, 5, none⟩ (.string ⟨#[]⟩)).setCell ⟨w.heap.size + 1, 6, none⟩ (.string ⟨#[]⟩)).setCell ⟨w.heap.size + 1, 7, none⟩ (.bool false)).setCell ⟨w.heap.size + 1, 8, none⟩ (.int .i64 0))) := Lib.hid ⟨(((((((((H2.out.1.set 0 _).set 1 _).set 2 _).set 3 _).set 4 _).set 5 _).set 6 _).set 7 _).set 8 _), ((((((((((Chg.refl [w.heap.size + 1] W4).set (Or.inl (by simp)) _ _).set (Or.inl (by simp)) _ _).set (Or.inl (by simp)) _ _).set (Or.inl (by simp)) _ _).set (Or.inl (by simp)) _ _).set (Or.inl (by simp)) _ _).set (Or.inl (by simp)) _ _).set (Or.inl (by simp)) _ _).set (Or.inl (by simp)) _ _).onto H2.out.2 H2.out.2.size (by simp)⟩
  clear z0 fz0 z1 fz1 z2 fz2 z3 fz3 z4 fz4 z5 fz5 z6 fz6 z7 fz7 z8 fz8
  revert HZ
  generalize (((((((((W4.setCell ⟨w.heap.size + 1, 0, none⟩ (.int .i64 0)).setCell ⟨w.heap.size + 1, 1, none⟩ (.int .i64 0)).setCell ⟨w.heap.size + 1, 2, none⟩ (.int .i64 0)).setCell ⟨w.heap.size + 1, 3, none⟩ (.slice none 0 0)).setCell ⟨w.heap.size + 1, 4, none⟩ (.slice none 0 0)).setCell ⟨w.heap.size + 1, 5, none⟩ (.string ⟨#[]⟩)).setCell ⟨w.heap.size + 1, 6, none⟩ (.string ⟨#[]⟩)).setCell ⟨w.heap.size + 1, 7, none⟩ (.bool false)).setCell ⟨w.heap.size + 1, 8, none⟩ (.int .i64 0)) = W9
  intro HZ
  have r0 := HZ.out.1.cell (i := 0) rfl
  have r1 := HZ.out.1.cell (i := 1) rfl
  have r2 := HZ.out.1.cell (i := 2) rfl
  have r3 := HZ.out.1.cell (i := 3) rfl
  have r4 := HZ.out.1.cell (i := 4) rfl
  have r5 := HZ.out.1.cell (i := 5) rfl
  have r6 := HZ.out.1.cell (i := 6) rfl
  have r7 := HZ.out.1.cell (i := 7) rfl
  have r8 := HZ.out.1.cell (i := 8) rfl
  refine bodyPost_ret (v := .tuple #[.agg #[.int .i64 0, .int .i64 0, .int .i64 0, .slice none 0 0, .slice none 0 0, .string ⟨#[]⟩, .string ⟨#[]⟩, .bool false, .int .i64 0], .bool false]) (by simp [results, Tryd.results23, go_sem, r0, r1, r2, r3, r4, r5, r6, r7, r8]) rfl ?_
  exact ⟨rfl, HZ.out.2⟩
set_option maxRecDepth 20000 in
set_option maxHeartbeats 16000000 in
theorem pj_of_some (a : Option Addr) (len cap : Nat) (L : List Ev) (hl : L.length = len) (hlm : len ≤ 100000) (hlc : len ≤ cap) (hsum : Ev.sum L ≤ 1000000) (id sc fr : Int) (T : List Ev) (h : Pj.life id L = some (sc, fr, T)) (eo : Bool) (he : Pj.eof T = eo) (st : Int) (hs : Pj.ss T = st) (rd tk : ByteArray) (hr : Pj.rd T = rd) (ht : Pj.tk T = tk) (nT nS : Nat) (hn : T.length = nT) (hN : (Pj.stE T).length = nS) (I S : List Value) (hI : Pj.ins T = I) (hS : Pj.sts T = S) (w : World) (HE : EL w a L) :
    Calls Tryd.prog 23 #[.slice a len cap, .int .i64 id] w fun r w' => ∃ r1 c1 r2 c2, r = .returned (.tuple #[.agg #[.int .i64 id, .int .i64 sc, .int .i64 fr, .slice r1 nT c1, .slice r2 nS c2, .string rd, .string tk, .bool eo, .int .i64 st], .bool true]) ∧ RM w' w.heap.size r1 nT c1 4 I 90 ∧ RM w' w.heap.size r2 nS c2 6 S 44 ∧ Below w.heap.size w w' := by
  obtain ⟨f, ⟨k, i, n, t, b, e, s0, s1, s2, s3, s4, s5⟩, hi, hx, hk2, hid, hxn, hcl, hT⟩ := Pj.life_some h
  dsimp only at hk2 hid hxn
  subst hk2 hid hxn
  have hlen2 := Lib.hid (show (L.drop f).length = len - f by rw [List.length_drop, hl])
  have hfl : f < len := by have := (List.getElem?_eq_some_iff.1 hx).1; omega
  unfold maxLen at *
  have H1 : Hid (Blk ((w.alloc (.cells #[.int .i64 i] 3)).alloc (.cells #[.int .i64 0, .int .i64 0, .int .i64 0, .slice none 0 0, .slice none 0 0, .string ⟨#[]⟩, .string ⟨#[]⟩, .bool false, .int .i64 0] 71)) w.heap.size [.int .i64 i] 3 ∧ Blk ((w.alloc (.cells #[.int .i64 i] 3)).alloc (.cells #[.int .i64 0, .int .i64 0, .int .i64 0, .slice none 0 0, .slice none 0 0, .string ⟨#[]⟩, .string ⟨#[]⟩, .bool false, .int .i64 0] 71)) (w.heap.size + 1) [.int .i64 0, .int .i64 0, .int .i64 0, .slice none 0 0, .slice none 0 0, .string ⟨#[]⟩, .string ⟨#[]⟩, .bool false, .int .i64 0] 71 ∧ Below w.heap.size w ((w.alloc (.cells #[.int .i64 i] 3)).alloc (.cells #[.int .i64 0, .int .i64 0, .int .i64 0, .slice none 0 0, .slice none 0 0, .string ⟨#[]⟩, .string ⟨#[]⟩, .bool false, .int .i64 0] 71)) ∧ EL ((w.alloc (.cells #[.int .i64 i] 3)).alloc (.cells #[.int .i64 0, .int .i64 0, .int .i64 0, .slice none 0 0, .slice none 0 0, .string ⟨#[]⟩, .string ⟨#[]⟩, .bool false, .int .i64 0] 71)) a L ∧ L.length = len) := Lib.hid (by
    have b1 := (Blk.newA w #[.int .i64 i] 3).alloc (.cells #[.int .i64 0, .int .i64 0, .int .i64 0, .slice none 0 0, .slice none 0 0, .string ⟨#[]⟩, .string ⟨#[]⟩, .bool false, .int .i64 0] 71)
    have b2 := Blk.newA (w.alloc (.cells #[.int .i64 i] 3)) #[.int .i64 0, .int .i64 0, .int .i64 0, .slice none 0 0, .slice none 0 0, .string ⟨#[]⟩, .string ⟨#[]⟩, .bool false, .int .i64 0] 71
    rw [World.size_alloc] at b2
    have k : Below w.heap.size w ((w.alloc (.cells #[.int .i64 i] 3)).alloc (.cells #[.int .i64 0, .int .i64 0, .int .i64 0, .slice none 0 0, .slice none 0 0, .string ⟨#[]⟩, .string ⟨#[]⟩, .bool false, .int .i64 0] 71)) := ((Below.refl _ _).alloc (Nat.le_refl _) _).alloc (by simp) _
    exact ⟨b1, b2, k, HE.below k, hl⟩)
  clear HE hl
  have HF := Lib.hid (And.intro hi (And.intro hx (And.intro hcl (And.intro hT (And.intro hsum (And.intro he (And.intro hs (And.intro hr (And.intro ht (And.intro hn (And.intro hN (And.intro hI hS))))))))))))
  clear h hi hx hcl hT hsum he hs hr ht hn hN hI hS
  go_enter Tryd.func23, Tryd.ntmps23
  go_upto_region 1 with fail
  revert H1
  generalize ((w.alloc (.cells #[.int .i64 i] 3)).alloc (.cells #[.int .i64 0, .int .i64 0, .int .i64 0, .slice none 0 0, .slice none 0 0, .string ⟨#[]⟩, .string ⟨#[]⟩, .bool false, .int .i64 0] 71)) = V
  intro H1
  have f0 : (0 : Int) ≤ (f : Int) := by omega
  have fn : ¬ (f : Int) < 0 := by omega
  have fl : (f : Int) < (len : Int) := by omega
  have fl2 : (f : Int) ≤ (len : Int) := by omega
  have fc : (f : Int) ≤ (cap : Int) := by omega
  have fc2 : f ≤ cap := by omega
  have fl3 : f ≤ len := by omega
  have lc2 : (len : Int) ≤ (cap : Int) := by omega
  have hV := Lib.hid (Nat.le_refl V.heap.size)
  go_upto_region 4 with (first
    | (go_at_call 36; (refine (pj_idx a len cap L H1.out.2.2.2.2 (by unfold maxLen; omega) w.heap.size i f HF.out.1 _ H1.out.2.2.2.1 (H1.out.1.cell (i := 0) rfl)).mono ?_); rintro r4 W4 ⟨rfl, hb4⟩; have H2 : Hid (Blk W4 w.heap.size [.int .i64 i] 3 ∧ Blk W4 (w.heap.size + 1) [.int .i64 0, .int .i64 0, .int .i64 0, .slice none 0 0, .slice none 0 0, .string ⟨#[]⟩, .string ⟨#[]⟩, .bool false, .int .i64 0] 71 ∧ Below w.heap.size w W4 ∧ EL W4 a L) := Lib.hid ⟨H1.out.1.below hb4 H1.out.1.lt, H1.out.2.1.below hb4 H1.out.2.1.lt, H1.out.2.2.1.trans (hb4.mono H1.out.2.2.1.size), H1.out.2.2.2.1.below hb4⟩; clear hb4)
    | fail)
  obtain ⟨hb, ga, o, rfl, hgw, e0, e1, e2, e3, e4, e5, e6, e7, e8, e9, e10, e11⟩ := H2.out.2.2.2.drew.get HF.out.2.1
  go_cut [7] from 16 to 24 (fun s7 wx => ∃ p : Nat, s7 = .pointer (some ⟨p, 0, none⟩) ∧ Hid (TK W4 [] wx W4.heap.size p i n fr []))
  case first =>
    go_region_law (first
      | (rw [if_pos (by simp [Region.wanted])]; unfold Oper.wp; go_simp; go_at_call 39; refine (pj_now _ f _ (L.take f) (by rw [List.length_take, H1.out.2.2.2.2]; omega) (by unfold maxLen; omega) fr HF.out.2.2.1 _ (H2.out.2.2.2.drew.take f)).mono ?_; rintro r5 W5 ⟨rfl, rfl⟩)
      | (rw [if_pos (by simp [Region.wanted])]; unfold Oper.wp; go_simp; go_at_call 38; refine (pj_begin 2 i n t b e s0 s1 s2 s3 s4 s5 fr _).mono ?_; rintro r6 W6 ⟨p, rfl, q1⟩; have HN : Hid (TK W4 [] W6 W4.heap.size p i n fr []) := Lib.hid (q1.back (Chg.refl [] W4).drew); clear q1))
    all_goals
      go_wp2_with fail
      go_meet
      exact ⟨p, rfl, HN⟩
  case rest =>
    obtain ⟨p, rfl, HP⟩ := hcut
    clear e0 e1 e2 e3 e4 e5 e6 e7 e8 e9 e10 e11 hgw hb H1
    have hw1 : IntKind.i64.wrap ((len : Int) - (f : Int)) = (len : Int) - (f : Int) := IntWalk.i64_in _ (by omega)
    go_wp2_with fail
    go_loopw [29] (fun z wr => ∃ j : Nat, z = .int .i64 j ∧ j ≤ len - f ∧ Hid (TK W4 [] wr W4.heap.size p i n fr (Pj.told i ((L.drop f).take j)))) (fun z _ => len - f - (intOf z).toNat)
    case atStart => exact ⟨0, rfl, by omega, HP⟩
    case round =>
      clear HP
      obtain ⟨j, rfl, hj, HP⟩ := hrel
      have j0 : (0 : Int) ≤ (j : Int) := by omega
      by_cases hjl : j < len - f
      · have i1 : (j : Int) < ((len - f : Nat) : Int) := by omega
        have i2 : (j : Int) < (len : Int) - (f : Int) := by omega
        have w1 : IntKind.i64.wrap ((j : Int) + 1) = (j : Int) + 1 := IntWalk.i64_in _ (by omega)
        obtain ⟨k', i', n', t', b', e', s0', s1', s2', s3', s4', s5', es⟩ : ∃ k' i' n' t' b' e' s0' s1' s2' s3' s4' s5', (L.drop f)[j]? = some ⟨k', i', n', t', b', e', s0', s1', s2', s3', s4', s5'⟩ := ⟨_, _, _, _, _, _, _, _, _, _, _, _, List.getElem?_eq_getElem (by rw [hlen2.out]; exact hjl)⟩
        obtain ⟨hb, ga2, o2, h2, hgw, e0, e1, e2, e3, e4, e5, e6, e7, e8, e9, e10, e11⟩ := ((H2.out.2.2.2.chg HP.out.chg0 (by simp)).drop f).get es
        injection h2 with h2
        injection h2 with q1 q2 _
        subst q1 q2
        obtain ⟨T1, hT1⟩ : ∃ T1, Pj.told i ((L.drop f).take j) = T1 := ⟨_, rfl⟩
        rw [hT1] at HP
        have HJ : Hid (Pj.told i ((L.drop f).take (j + 1)) = (if k' = 7 ∨ i' = i then Pj.one ⟨k', i', n', t', b', e', s0', s1', s2', s3', s4', s5'⟩ T1 else T1) ∧ T1.length ≤ 100000 ∧ (Pj.rd T1).size + b'.size ≤ 1000000 ∧ (Pj.tk T1).size + b'.size ≤ 1000000) := Lib.hid (by
          rw [← hT1]
          have q := Pj.told_le i ((L.drop f).take j)
          have q2 := Ev.sum_snoc ((L.drop f).take j) ⟨k', i', n', t', b', e', s0', s1', s2', s3', s4', s5'⟩
          have q3 := Ev.sum_take (L.drop f) (j + 1)
          have q4 := Ev.sum_drop L f
          rw [take_snocE es] at q3
          have q5 := HF.out.2.2.2.2.1
          dsimp only at q2
          refine ⟨told_take_succ es, ?_, by omega, by omega⟩
          have := q.1
          rw [List.length_take] at this
          omega)
        clear es hT1 hb
        go_upto_region 8 with fail
        have H3 : Hid (TK W4 [] (wr.alloc (.cells #[.int .i64 k', .int .i64 i', .int .i64 n', .int .i64 t', .string b', .int .i64 e', .int .i64 s0', .int .i64 s1', .int .i64 s2', .int .i64 s3', .int .i64 s4', .int .i64 s5'] 46)) W4.heap.size p i n fr T1 ∧ Blk (wr.alloc (.cells #[.int .i64 k', .int .i64 i', .int .i64 n', .int .i64 t', .string b', .int .i64 e', .int .i64 s0', .int .i64 s1', .int .i64 s2', .int .i64 s3', .int .i64 s4', .int .i64 s5'] 46)) wr.heap.size [.int .i64 k', .int .i64 i', .int .i64 n', .int .i64 t', .string b', .int .i64 e', .int .i64 s0', .int .i64 s1', .int .i64 s2', .int .i64 s3', .int .i64 s4', .int .i64 s5'] 46 ∧ (wr.alloc (.cells #[.int .i64 k', .int .i64 i', .int .i64 n', .int .i64 t', .string b', .int .i64 e', .int .i64 s0', .int .i64 s1', .int .i64 s2', .int .i64 s3', .int .i64 s4', .int .i64 s5'] 46)).cell? ⟨w.heap.size, 0, none⟩ = some (.int .i64 i)) := Lib.hid (by
          have q : TK W4 [] (wr.alloc (.cells #[.int .i64 k', .int .i64 i', .int .i64 n', .int .i64 t', .string b', .int .i64 e', .int .i64 s0', .int .i64 s1', .int .i64 s2', .int .i64 s3', .int .i64 s4', .int .i64 s5'] 46)) W4.heap.size p i n fr T1 := HP.out.drained (l := []) ((Chg.refl [] wr).alloc _)
          exact ⟨q, Blk.newA _ _ _, (H2.out.1.chg q.chg0 (by simp)).cell rfl⟩)
        clear e0 e1 e2 e3 e4 e5 e6 e7 e8 e9 e10 e11 HP hgw
        revert H3
        generalize (wr.alloc (.cells #[.int .i64 k', .int .i64 i', .int .i64 n', .int .i64 t', .string b', .int .i64 e', .int .i64 s0', .int .i64 s1', .int .i64 s2', .int .i64 s3', .int .i64 s4', .int .i64 s5'] 46)) = W5
        generalize wr.heap.size = X
        intro H3
        have d0 := H3.out.2.1.cell (i := 0) rfl
        have d1 := H3.out.2.1.cell (i := 1) rfl
        have d2 := H3.out.2.1.cell (i := 2) rfl
        have d3 := H3.out.2.1.cell (i := 3) rfl
        have d4 := H3.out.2.1.cell (i := 4) rfl
        have d5 := H3.out.2.1.cell (i := 5) rfl
        have d6 := H3.out.2.1.cell (i := 6) rfl
        have d7 := H3.out.2.1.cell (i := 7) rfl
        have d8 := H3.out.2.1.cell (i := 8) rfl
        have d9 := H3.out.2.1.cell (i := 9) rfl
        have d10 := H3.out.2.1.cell (i := 10) rfl
        have d11 := H3.out.2.1.cell (i := 11) rfl
        have dx := H3.out.2.2
        obtain ⟨T2, hT2⟩ : ∃ T2, Pj.one ⟨k', i', n', t', b', e', s0', s1', s2', s3', s4', s5'⟩ T1 = T2 := ⟨_, rfl⟩
        by_cases h7 : k' = 7
        · have HQ : Hid (Pj.told i ((L.drop f).take (j + 1)) = T2) := Lib.hid (by rw [HJ.out.1, if_pos (Or.inl h7), hT2])
          have HT2 := Lib.hid hT2
          have h7b : (k' == 7) = true := by simp [h7]
          clear hT2 h7
          go_wp2_with (first
            | (go_at_call 40; (refine (pj_add k' i' n' t' b' e' s0' s1' s2' s3' s4' s5' W4 [] W4.heap.size p i n fr T1 T2 HT2.out HJ.out.2.1 HJ.out.2.2.1 HJ.out.2.2.2 _ H3.out.1).mono ?_); rintro r7 W7 ⟨rfl, q1⟩; have HD := Lib.hid q1; clear q1)
            | fail)
          go_roundw
          case rel => exact ⟨j + 1, by go_num, by omega, by rw [HQ.out]; exact HD⟩
          case measure => simp [intOf]; omega
        · have h7b : (k' == 7) = false := by simp [h7]
          by_cases hii : i' = i
          · have HQ : Hid (Pj.told i ((L.drop f).take (j + 1)) = T2) := Lib.hid (by rw [HJ.out.1, if_pos (Or.inr hii), hT2])
            have HT2 := Lib.hid hT2
            have hib : (i' == i) = true := by simp [hii]
            clear hT2 h7 hii
            go_wp2_with (first
              | (go_at_call 40; (refine (pj_add k' i' n' t' b' e' s0' s1' s2' s3' s4' s5' W4 [] W4.heap.size p i n fr T1 T2 HT2.out HJ.out.2.1 HJ.out.2.2.1 HJ.out.2.2.2 _ H3.out.1).mono ?_); rintro r7 W7 ⟨rfl, q1⟩; have HD := Lib.hid q1; clear q1)
              | fail)
            go_roundw
            case rel => exact ⟨j + 1, by go_num, by omega, by rw [HQ.out]; exact HD⟩
            case measure => simp [intOf]; omega
          · have HQ : Hid (Pj.told i ((L.drop f).take (j + 1)) = T1) := Lib.hid (by rw [HJ.out.1, if_neg (by rintro (h | h); exact h7 h; exact hii h)])
            have hib : (i' == i) = false := by simp [hii]
            have HD := Lib.hid H3.out.1
            clear hT2 h7 hii
            go_wp2_with fail
            go_roundw
            case rel => exact ⟨j + 1, by go_num, by omega, by rw [HQ.out]; exact HD⟩
            case measure => simp [intOf]; omega
      · obtain rfl : j = len - f := by omega
        have i1 : ¬ ((len - f : Nat) : Int) < ((len - f : Nat) : Int) := by omega
        have HT : Hid (TK W4 [] wr W4.heap.size p i n fr T) := Lib.hid (by
          have q := HP.out
          rw [List.take_of_length_le (by rw [hlen2.out]; exact Nat.le_refl _), HF.out.2.2.2.1] at q
          exact q)
        clear HP
        go_wp2_with (first
          | (go_at_call 41; (refine (pj_done W4 [] W4.heap.size p HT.out.pge i n fr T _ HT.out eo HF.out.2.2.2.2.2.1 st HF.out.2.2.2.2.2.2.1 rd tk HF.out.2.2.2.2.2.2.2.1 HF.out.2.2.2.2.2.2.2.2.1 nT nS HF.out.2.2.2.2.2.2.2.2.2.1 HF.out.2.2.2.2.2.2.2.2.2.2.1 I S HF.out.2.2.2.2.2.2.2.2.2.2.2.1 HF.out.2.2.2.2.2.2.2.2.2.2.2.2).mono ?_); rintro r7 W7 ⟨r1, c1, r2, c2, rfl, q1, q2, q3⟩; have HD : Hid (RM W7 W4.heap.size r1 nT c1 4 I 90 ∧ RM W7 W4.heap.size r2 nS c2 6 S 44 ∧ Below w.heap.size w W7 ∧ Blk W7 (w.heap.size + 1) [.int .i64 0, .int .i64 0, .int .i64 0, .slice none 0 0, .slice none 0 0, .string ⟨#[]⟩, .string ⟨#[]⟩, .bool false, .int .i64 0] 71 ∧ w.heap.size + 1 < W4.heap.size) := Lib.hid ⟨q1, q2, q3.onto H2.out.2.2.1 H2.out.2.2.1.size (by simp), H2.out.2.1.chg q3 (by simp), H2.out.2.1.lt⟩; clear q1 q2 q3; have z0 := HD.out.2.2.2.1.cell (i := 0) rfl; have fz0 := HD.out.2.2.2.1.free 0; have z1 := HD.out.2.2.2.1.cell (i := 1) rfl; have fz1 := HD.out.2.2.2.1.free 1; have z2 := HD.out.2.2.2.1.cell (i := 2) rfl; have fz2 := HD.out.2.2.2.1.free 2; have z3 := HD.out.2.2.2.1.cell (i := 3) rfl; have fz3 := HD.out.2.2.2.1.free 3; have z4 := HD.out.2.2.2.1.cell (i := 4) rfl; have fz4 := HD.out.2.2.2.1.free 4; have z5 := HD.out.2.2.2.1.cell (i := 5) rfl; have fz5 := HD.out.2.2.2.1.free 5; have z6 := HD.out.2.2.2.1.cell (i := 6) rfl; have fz6 := HD.out.2.2.2.1.free 6; have z7 := HD.out.2.2.2.1.cell (i := 7) rfl; have fz7 := HD.out.2.2.2.1.free 7; have z8 := HD.out.2.2.2.1.cell (i := 8) rfl; have fz8 := HD.out.2.2.2.1.free 8)
          | fail)
        have HZ : Hid (Blk (((((((((W7.setCell ⟨w.heap.size + 1, 0, none⟩ (.int .i64 i)).setCell ⟨w.heap.size + 1, 1, none⟩ (.int .i64 n)).setCell ⟨w.heap.size + 1, 2, none⟩ (.int .i64 fr)).setCell ⟨w.heap.size + 1, 3, none⟩ (.slice r1 nT c1)).setCell ⟨w.heap.size + 1, 4, none⟩ (.slice r2 nS c2)).setCell ⟨w.heap.size + 1, 5, none⟩ (.string rd)).setCell ⟨w.heap.size + 1, 6, none⟩ (.string tk)).setCell ⟨w.heap.size + 1, 7, none⟩ (.bool eo)).setCell ⟨w.heap.size + 1, 8, none⟩ (.int .i64 st)) (w.heap.size + 1) [.int .i64 i, .int .i64 n, .int .i64 fr, .slice r1 nT c1, .slice r2 nS c2, .string rd, .string tk, .bool eo, .int .i64 st] 71 ∧ RM (((((((((W7.setCell ⟨w.heap.size + 1, 0, none⟩ (.int .i64 i)).setCell ⟨w.heap.size + 1, 1, none⟩ (.int .i64 n)).setCell ⟨w.heap.size + 1, 2, none⟩ (.int .i64 fr)).setCell ⟨w.heap.size + 1, 3, none⟩ (.slice r1 nT c1)).setCell ⟨w.heap.size + 1, 4, none⟩ (.slice r2 nS c2)).setCell ⟨w.heap.size + 1, 5, none⟩ (.string rd)).setCell ⟨w.heap.size + 1, 6, none⟩ (.string tk)).setCell ⟨w.heap.size + 1, 7, none⟩ (.bool eo)).setCell ⟨w.heap.size + 1, 8, none⟩ (.int .i64 st)) w.heap.size r1 nT c1 4 I 90 ∧ RM (((((((((W7.setCell ⟨w.heap.size + 1, 0, none⟩ (.int .i64 i)).setCell ⟨w.heap.size + 1, 1, none⟩ (.int .i64 n)).setCell ⟨w.heap.size + 1, 2, none⟩ (.int .i64 fr)).setCell ⟨w.heap.size + 1, 3, none⟩ (.slice r1 nT c1)).setCell ⟨w.heap.size + 1, 4, none⟩ (.slice r2 nS c2)).setCell ⟨w.heap.size + 1, 5, none⟩ (.string rd)).setCell ⟨w.heap.size + 1, 6, none⟩ (.string tk)).setCell ⟨w.heap.size + 1, 7, none⟩ (.bool eo)).setCell ⟨w.heap.size + 1, 8, none⟩ (.int .i64 st)) w.heap.size r2 nS c2 6 S 44 ∧ Below w.heap.size w (((((((((W7.setCell ⟨w.heap.size + 1, 0, none⟩ (.int .i64 i)).setCell ⟨w.heap.size + 1, 1, none⟩ (.int .i64 n)).setCell ⟨w.heap.size + 1, 2, none⟩ (.int .i64 fr)).setCell ⟨w.heap.size + 1, 3, none⟩ (.slice r1 nT c1)).setCell ⟨w.heap.size + 1, 4, none⟩ (.slice r2 nS c2)).setCell ⟨w.heap.size + 1, 5, none⟩ (.string rd)).setCell ⟨w.heap.size + 1, 6, none⟩ (.string tk)).setCell ⟨w.heap.size + 1, 7, none⟩ (.bool eo)).setCell ⟨w.heap.size + 1, 8, none⟩ (.int .i64 st))) := Lib.hid (by
          have k9 : Chg [w.heap.size + 1] W7 (((((((((W7.setCell ⟨w.heap.size + 1, 0, none⟩ (.int .i64 i)).setCell ⟨w.heap.size + 1, 1, none⟩ (.int .i64 n)).setCell ⟨w.heap.size + 1, 2, none⟩ (.int .i64 fr)).setCell ⟨w.heap.size + 1, 3, none⟩ (.slice r1 nT c1)).setCell ⟨w.heap.size + 1, 4, none⟩ (.slice r2 nS c2)).setCell ⟨w.heap.size + 1, 5, none⟩ (.string rd)).setCell ⟨w.heap.size + 1, 6, none⟩ (.string tk)).setCell ⟨w.heap.size + 1, 7, none⟩ (.bool eo)).setCell ⟨w.heap.size + 1, 8, none⟩ (.int .i64 st)) := ((((((((((Chg.refl [w.heap.size + 1] W7).set (Or.inl (by simp)) _ _).set (Or.inl (by simp)) _ _).set (Or.inl (by simp)) _ _).set (Or.inl (by simp)) _ _).set (Or.inl (by simp)) _ _).set (Or.inl (by simp)) _ _).set (Or.inl (by simp)) _ _).set (Or.inl (by simp)) _ _).set (Or.inl (by simp)) _ _)
          have l1 := HD.out.1.lt; have l2 := HD.out.2.1.lt; have l3 := HD.out.2.2.2.2
          have hw := H2.out.2.2.1.size
          exact ⟨(((((((((HD.out.2.2.2.1.set 0 _).set 1 _).set 2 _).set 3 _).set 4 _).set 5 _).set 6 _).set 7 _).set 8 _), (HD.out.1.chg k9 (fun g hg h => by have := (l1 g hg).1; simp at h; omega)).base_le hw, (HD.out.2.1.chg k9 (fun g hg h => by have := (l2 g hg).1; simp at h; omega)).base_le hw, k9.onto HD.out.2.2.1 HD.out.2.2.1.size (by simp)⟩)
        clear z0 fz0 z1 fz1 z2 fz2 z3 fz3 z4 fz4 z5 fz5 z6 fz6 z7 fz7 z8 fz8
        revert HZ
        generalize (((((((((W7.setCell ⟨w.heap.size + 1, 0, none⟩ (.int .i64 i)).setCell ⟨w.heap.size + 1, 1, none⟩ (.int .i64 n)).setCell ⟨w.heap.size + 1, 2, none⟩ (.int .i64 fr)).setCell ⟨w.heap.size + 1, 3, none⟩ (.slice r1 nT c1)).setCell ⟨w.heap.size + 1, 4, none⟩ (.slice r2 nS c2)).setCell ⟨w.heap.size + 1, 5, none⟩ (.string rd)).setCell ⟨w.heap.size + 1, 6, none⟩ (.string tk)).setCell ⟨w.heap.size + 1, 7, none⟩ (.bool eo)).setCell ⟨w.heap.size + 1, 8, none⟩ (.int .i64 st)) = W9
        intro HZ
        have x0 := HZ.out.1.cell (i := 0) rfl
        have x1 := HZ.out.1.cell (i := 1) rfl
        have x2 := HZ.out.1.cell (i := 2) rfl
        have x3 := HZ.out.1.cell (i := 3) rfl
        have x4 := HZ.out.1.cell (i := 4) rfl
        have x5 := HZ.out.1.cell (i := 5) rfl
        have x6 := HZ.out.1.cell (i := 6) rfl
        have x7 := HZ.out.1.cell (i := 7) rfl
        have x8 := HZ.out.1.cell (i := 8) rfl
        refine bodyPost_ret (v := .tuple #[.agg #[.int .i64 i, .int .i64 n, .int .i64 fr, .slice r1 nT c1, .slice r2 nS c2, .string rd, .string tk, .bool eo, .int .i64 st], .bool true]) (by simp [results, Tryd.results23, go_sem, x0, x1, x2, x3, x4, x5, x6, x7, x8]) rfl ?_
        exact ⟨r1, c1, r2, c2, rfl, HZ.out.2.1, HZ.out.2.2.1, HZ.out.2.2.2⟩
end Go.Proofs.YtdchedkhlfmpeaaDoor
