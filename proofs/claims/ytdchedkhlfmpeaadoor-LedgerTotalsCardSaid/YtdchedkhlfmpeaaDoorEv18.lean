/- Events: either life whole; rounds, one by one. -/
import Derived.Test.YtdchedkhlfmpeaaDoorEv13
import Derived.Test.YtdchedkhlfmpeaaDoorEv15
import Derived.Test.YtdchedkhlfmpeaaDoorEv17
import Derived.WalkKit
import Derived.ProofKit
import Derived.Handy
import Derived.WalkLawsBesides
import Derived.WalkSpells
import Derived.Lib.Hide
import Derived.Lib.SliceRun
import Derived.Deep.RegionLaw
import Derived.RegionTactic
import Derived.ChangeAlike
import Derived.WalkSmall
import Derived.Deep.QuietTactic
import Derived.BigQuiet
import Derived.OwnWalk
import Derived.Outline
import Derived.Deep.CutRange
import Derived.Deep.CutBlock
import Derived.LoopTactic
namespace Go.Proofs.YtdchedkhlfmpeaaDoor
open Go.ChangeShapes Go.WideShapes Go.ChangeAt Go.RowKit
set_option linter.unusedSimpArgs false
set_option linter.unusedVariables false


theorem Ev.cut_cut (x : Ev) : x.cut.cut = x.cut := by
  unfold Ev.cut cutE
  dsimp only
  split
  · rename_i h
    first
      | rfl
      | rw [if_neg (by rw [ByteArray.size_extract]; omega)]
  · rename_i h
    first
      | rfl
      | rw [if_neg h]
theorem fewE_fewE (m : Nat) (L : List Ev) : fewE m (fewE m L) = fewE m L := by
  unfold fewE
  rw [← List.map_take, List.map_map, List.take_take, Nat.min_self]
  congr 1
  funext x
  exact Ev.cut_cut x
/-- The life as it is told: all zero if there is none. -/
def Pj.lifeD (id : Int) (L : List Ev) : Int × Int × Int × List Ev × Bool := match Pj.life id L with
  | none => (0, 0, 0, [], false)
  | some (sc, fr, T) => (id, sc, fr, T, true)
theorem Pj.lifeD_ok {a1 : Int} {L : List Ev} (hL : ∀ x ∈ L, x.ok) {i sc fr : Int} {T : List Ev} {ok : Bool} (h : Pj.lifeD a1 L = (i, sc, fr, T, ok)) : (∀ x ∈ T, x.ok) ∧ T.length ≤ L.length := by
  unfold Pj.lifeD at h
  split at h
  · injection h with _ h; injection h with _ h; injection h with _ h; injection h with h _
    subst h
    exact ⟨by simp, by simp⟩
  · rename_i sc2 fr2 T2 hl
    injection h with _ h; injection h with _ h; injection h with _ h; injection h with h _
    subst h
    exact Pj.life_ok hL hl
set_option maxRecDepth 20000 in
set_option maxHeartbeats 16000000 in
theorem of_any (a : Option Addr) (len cap : Nat) (L : List Ev) (hl : L.length = len) (hlm : len ≤ 100000) (hlc : len ≤ cap) (hsum : Ev.sum L ≤ 1000000) (a1 i sc fr : Int) (T : List Ev) (ok : Bool) (h : Pj.lifeD a1 L = (i, sc, fr, T, ok)) (eo : Bool) (he : Pj.eof T = eo) (st : Int) (hs : Pj.ss T = st) (rd tk : ByteArray) (hr : Pj.rd T = rd) (ht : Pj.tk T = tk) (nT nS : Nat) (hn : T.length = nT) (hN : (Pj.stE T).length = nS) (w : World) (HE : EL w a L) :
    Calls Tryd.prog 23 #[.slice a len cap, .int .i64 a1] w fun r w' => ∃ r1 c1 r2 c2, r = .returned (.tuple #[.agg #[.int .i64 i, .int .i64 sc, .int .i64 fr, .slice r1 nT c1, .slice r2 nS c2, .string rd, .string tk, .bool eo, .int .i64 st], .bool ok]) ∧ RE w' r1 4 Pj.inC T ∧ RE w' r2 6 Ev.st (Pj.stE T) ∧ Below w.heap.size w w' := by
  unfold Pj.lifeD at h
  split at h
  · rename_i hlf
    simp only [Prod.mk.injEq] at h
    obtain ⟨rfl, rfl, rfl, rfl, rfl⟩ := h
    subst he hs hr ht hn hN
    refine (pj_of_none a len cap L hl (by unfold maxLen; omega) a1 hlf w HE).mono ?_
    rintro r w' ⟨rfl, hb⟩
    exact ⟨none, 0, none, 0, rfl, fun j x h => by simp at h, fun j x h => by simp [Pj.stE] at h, hb⟩
  · rename_i sc2 fr2 T2 hlf
    simp only [Prod.mk.injEq] at h
    obtain ⟨rfl, rfl, rfl, rfl, rfl⟩ := h
    refine (pj_of_some a len cap L hl hlm hlc hsum a1 sc2 fr2 T2 hlf eo he st hs rd tk hr ht nT nS hn hN _ _ rfl rfl w HE).mono ?_
    rintro r w' ⟨r1, c1, r2, c2, rfl, p1, p2, hb⟩
    exact ⟨r1, c1, r2, c2, rfl, RE.of_rm (f := Pj.inC) p1 hn Pj.inC_len, RE.of_rm (f := Ev.st) (M := Pj.stE T2) p2 hN Ev.st_len, hb⟩
set_option maxRecDepth 20000 in
set_option maxHeartbeats 16000000 in
theorem rf_any (a : Option Addr) (len cap : Nat) (L : List Ev) (hl : L.length = len) (hlm : len ≤ 100000) (hsum : Ev.sum L ≤ 1000000) (a1 i sc fr : Int) (T : List Ev) (ok : Bool) (h : Pj.lifeD a1 L = (i, sc, fr, T, ok)) (eo : Bool) (he : Pj.eof T = eo) (st : Int) (hs : Pj.ss T = st) (rd tk : ByteArray) (hr : Pj.rd T = rd) (ht : Pj.tk T = tk) (nT nS : Nat) (hn : T.length = nT) (hN : (Pj.stE T).length = nS) (w : World) (HE : EL w a L) :
    Calls Tryd.prog 20 #[.slice a len cap, .int .i64 a1] w fun r w' => ∃ r1 c1 r2 c2 r3 c3, r = .returned (.tuple #[.agg #[.int .i64 i, .int .i64 sc, .int .i64 fr, .slice r1 nT c1, .slice r2 nT c2, .slice r3 nS c3, .string rd, .string tk, .bool eo, .int .i64 st], .bool ok]) ∧ RE w' r1 4 Pj.inC T ∧ RE w' r3 6 Ev.st (Pj.stE T) ∧ Below w.heap.size w w' := by
  unfold Pj.lifeD at h
  split at h
  · rename_i hlf
    simp only [Prod.mk.injEq] at h
    obtain ⟨rfl, rfl, rfl, rfl, rfl⟩ := h
    subst he hs hr ht hn hN
    refine (rf_of a len cap L hl hlm hsum a1 none hlf w HE).mono ?_
    rintro r w' ⟨rfl, hb⟩
    exact ⟨none, 0, none, 0, none, 0, rfl, fun j x h => by simp at h, fun j x h => by simp [Pj.stE] at h, hb⟩
  · rename_i sc2 fr2 T2 hlf
    simp only [Prod.mk.injEq] at h
    obtain ⟨rfl, rfl, rfl, rfl, rfl⟩ := h
    subst he hs hr ht hn hN
    refine (rf_of a len cap L hl hlm hsum a1 (some (sc2, fr2, T2)) hlf w HE).mono ?_
    rintro r w' ⟨r1, c1, r2, c2, r3, c3, rfl, p1, p3, hb⟩
    exact ⟨r1, c1, r2, c2, r3, c3, rfl, RE.of_rm (f := Pj.inC) p1 rfl Pj.inC_len, RE.of_rm (f := Ev.st) (M := Pj.stE T2) p3 rfl Ev.st_len, hb⟩
/-- One round of the row. -/
theorem RR.get {W : World} {B : Nat} {r : Option Addr} {n c : Nat} {cs : List (List Ev)} (h : RR W B r n c cs) {i : Nat} {d : List Ev} (hi : cs[i]? = some d) : ∃ g q0 q2, r = some ⟨g, 0, none⟩ ∧ g < W.heap.size ∧ W.cell? ⟨g, i, none⟩ = some (.slice q0 d.length q2) ∧ RE W q0 12 Ev.c d := by
  obtain ⟨Q, h1, h2, h3, h4, _⟩ := h
  have hin := (List.getElem?_eq_some_iff.1 hi).1
  obtain ⟨g, rfl, _, hr⟩ := h1.row (by omega)
  obtain ⟨q, hq⟩ : ∃ q, Q[i]? = some q := ⟨_, List.getElem?_eq_getElem (by omega)⟩
  obtain ⟨h5, h6⟩ := h4 i q d hq hi
  refine ⟨g, q.1, q.2.2, rfl, hr.lt, ?_, RE.of_rm (f := Ev.c) h6 h5.symm (fun _ => rfl)⟩
  rw [hr.cell (slq_at hq), h5]
/-- Where a round lies. -/
def Ev.off (L : List Ev) (i : Nat) : Nat := (Ev.chk L).1.length + (((Ev.chk L).2.take i).flatten).length
theorem Ev.off_zero (L : List Ev) : Ev.off L 0 = (Ev.chk L).1.length := by unfold Ev.off; simp
theorem Ev.off_at {L : List Ev} {i : Nat} {d : List Ev} (h : (Ev.chk L).2[i]? = some d) : Ev.off L (i + 1) = Ev.off L i + d.length ∧ Ev.off L i + d.length ≤ L.length ∧ (L.drop (Ev.off L i)).take d.length = d := by
  have hl := (Ev.chk_all L).1
  have hin := (List.getElem?_eq_some_iff.1 h).1
  have e1 : (Ev.chk L).2.take (i + 1) = (Ev.chk L).2.take i ++ [d] := by
    rw [List.take_add_one, h]; rfl
  have e2 : (Ev.chk L).2 = (Ev.chk L).2.take i ++ (d :: (Ev.chk L).2.drop (i + 1)) := by
    have h1 := (List.take_append_drop i (Ev.chk L).2).symm
    rw [List.drop_eq_getElem_cons hin] at h1
    rw [List.getElem?_eq_getElem hin] at h
    injection h with h
    rw [h] at h1
    exact h1
  have e3 : L = ((Ev.chk L).1 ++ ((Ev.chk L).2.take i).flatten) ++ (d ++ ((Ev.chk L).2.drop (i + 1)).flatten) := by
    conv => lhs; rw [hl, e2]
    simp
  have e4 : ((Ev.chk L).1 ++ ((Ev.chk L).2.take i).flatten).length = Ev.off L i := by unfold Ev.off; rw [List.length_append]
  have e5 : L.length = Ev.off L i + (d.length + ((Ev.chk L).2.drop (i + 1)).flatten.length) := by
    conv => lhs; rw [e3]
    rw [List.length_append, e4, List.length_append]
  refine ⟨by unfold Ev.off; rw [e1]; simp; omega, by omega, ?_⟩
  have e6 : L.drop (Ev.off L i) = d ++ ((Ev.chk L).2.drop (i + 1)).flatten := by
    revert e4
    generalize Ev.off L i = o
    intro e4
    conv => lhs; rw [e3]
    rw [← e4, List.drop_left]
  rw [e6, List.take_left]
theorem Ev.off_end (L : List Ev) : Ev.off L (Ev.chk L).2.length = L.length := by
  unfold Ev.off
  rw [List.take_of_length_le (Nat.le_refl _)]
  conv => rhs; rw [(Ev.chk_all L).1]
  rw [List.length_append]
theorem Ev.pre_at (L : List Ev) {j : Nat} {x : Ev} (h : L[j]? = some x) (hj : j < (Ev.chk L).1.length) : x.k ≠ 1 := by
  have h2 := (Ev.chk_all L).1
  rw [h2, List.getElem?_append_left hj] at h
  exact (Ev.chk_all L).2.1 x (List.mem_of_getElem? h)
theorem Ev.pre_end (L : List Ev) {x : Ev} (h : L[(Ev.chk L).1.length]? = some x) : x.k = 1 := by
  have h2 := (Ev.chk_all L).1
  have h3 : ((Ev.chk L).1 ++ (Ev.chk L).2.flatten)[(Ev.chk L).1.length]? = some x := by
    rw [← h]; congr 1; exact h2.symm
  rw [List.getElem?_append_right (Nat.le_refl _), Nat.sub_self] at h3
  replace h := h3
  cases hc : (Ev.chk L).2 with
  | nil => rw [hc] at h; simp at h
  | cons c cs =>
    obtain ⟨y, t, rfl, hy⟩ := (Ev.chk_all L).2.2.1 c (by rw [hc]; exact List.mem_cons_self)
    rw [hc] at h
    simp at h
    subst h
    exact hy
/-- A round's head, and its clock. -/
theorem Ev.off_head {L : List Ev} {i : Nat} {d : List Ev} (h : (Ev.chk L).2[i]? = some d) : ∃ x, L[Ev.off L i]? = some x ∧ x.k = 1 ∧ (Ev.clks L)[i]? = some x.t ∧ 0 < d.length := by
  obtain ⟨y, t, rfl, hy⟩ := (Ev.chk_all L).2.2.1 d (List.mem_of_getElem? h)
  refine ⟨y, ?_, hy, ?_, by simp⟩
  · have h2 := (Ev.off_at h).2.2
    have h3 : ((L.drop (Ev.off L i)).take (y :: t).length)[0]? = some y := by rw [h2]; rfl
    rw [List.getElem?_take, if_pos (by simp), List.getElem?_drop, Nat.add_zero] at h3
    exact h3
  · rw [(Ev.chk_all L).2.2.2.1, List.getElem?_map, h]
    rfl
theorem Ev.clks_len (L : List Ev) : (Ev.clks L).length = (Ev.chk L).2.length := by rw [(Ev.chk_all L).2.2.2.1, List.length_map]
/-- What the law holds of the world once all is asked. -/
def PT (w W : World) (gl cl m : Nat) (L : List Ev) (rr : Option Addr) (nr cr B : Nat) (rk : Option Addr) : Prop :=
  Rn W gl cl 12 (evs L) 46 ∧ RR W B rr nr cr (Ev.chk L).2 ∧ RI W rk (Ev.clks L) ∧ Below w.heap.size w W ∧ w.heap.size ≤ W.heap.size
theorem PT.same {w W W' : World} {gl cl m : Nat} {L : List Ev} {rr : Option Addr} {nr cr B : Nat} {rk : Option Addr} (h : PT w W gl cl m L rr nr cr B rk) (k : Below W.heap.size W W') : PT w W' gl cl m L rr nr cr B rk :=
  ⟨h.1.chg (l := []) (Chg.of_fresh k) (by simp), h.2.1.same (Chg.of_fresh k), h.2.2.1.below k, h.2.2.2.1.trans (k.mono h.2.2.2.2), Nat.le_trans h.2.2.2.2 k.size⟩
end Go.Proofs.YtdchedkhlfmpeaaDoor
