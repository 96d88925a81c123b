/- Events: proj.Rounds. -/
import Derived.Test.YtdchedkhlfmpeaaDoorEv16
import Derived.WalkKit
import Derived.ProofKit
import Derived.Handy
import Derived.WalkLawsBesides
import Derived.WalkSpells
import Derived.Lib.Hide
import Derived.Lib.SliceRun
import Derived.Deep.RegionLaw
import Derived.RegionTactic
import Derived.ChangeAlike
import Derived.WalkSmall
import Derived.Deep.QuietTactic
import Derived.BigQuiet
import Derived.OwnWalk
import Derived.Outline
import Derived.Deep.CutRange
import Derived.Deep.CutBlock
import Derived.LoopTactic
namespace Go.Proofs.YtdchedkhlfmpeaaDoor
open Go.ChangeShapes Go.WideShapes Go.ChangeAt Go.RowKit
set_option linter.unusedSimpArgs false
set_option linter.unusedVariables false

/-- What stands ahead of the first round, and the rounds. -/
def Ev.chk : List Ev → List Ev × List (List Ev)
  | [] => ([], [])
  | x :: L => if x.k = 1 then ([], (x :: (Ev.chk L).1) :: (Ev.chk L).2) else (x :: (Ev.chk L).1, (Ev.chk L).2)
/-- One more event. -/
def Ev.chk1 (x : Ev) (p : List Ev × List (List Ev)) : List Ev × List (List Ev) := if x.k = 1 then (p.1, p.2 ++ [[x]]) else match p.2 with
  | [] => (p.1 ++ [x], [])
  | c :: cs => (p.1, (c :: cs).dropLast ++ [(c :: cs).getLastD [] ++ [x]])
theorem Ev.chk_snoc (x : Ev) : ∀ (M : List Ev), Ev.chk (M ++ [x]) = Ev.chk1 x (Ev.chk M)
  | [] => by
    unfold Ev.chk1
    by_cases h : x.k = 1
    · simp [Ev.chk, h]
    · simp [Ev.chk, h]
  | y :: M => by
    rw [List.cons_append]
    unfold Ev.chk
    rw [Ev.chk_snoc x M]
    by_cases hy : y.k = 1
    · rw [if_pos hy, if_pos hy]
      unfold Ev.chk1
      by_cases hx : x.k = 1
      · simp [hx]
      · cases h2 : (Ev.chk M).2 with
        | nil => simp [hx]
        | cons c cs => simp [hx, List.getLastD]
    · rw [if_neg hy, if_neg hy]
      unfold Ev.chk1
      by_cases hx : x.k = 1
      · simp [hx]
      · cases h2 : (Ev.chk M).2 with
        | nil => simp [hx]
        | cons c cs => simp [hx]
theorem Ev.chk_all : ∀ (L : List Ev), L = (Ev.chk L).1 ++ (Ev.chk L).2.flatten ∧ (∀ y ∈ (Ev.chk L).1, y.k ≠ 1) ∧ (∀ c ∈ (Ev.chk L).2, ∃ y t, c = y :: t ∧ y.k = 1) ∧ Ev.clks L = (Ev.chk L).2.map (fun c => (c.head?.map Ev.t).getD 0) ∧ (L.filter (fun x => x.k == 1)).length = (Ev.chk L).2.length
  | [] => by simp [Ev.chk, Ev.clks]
  | x :: L => by
    obtain ⟨h1, h2, h3, h4, h5⟩ := Ev.chk_all L
    unfold Ev.chk
    by_cases hx : x.k = 1
    · rw [if_pos hx]
      refine ⟨?_, by simp, ?_, ?_, ?_⟩
      · simp only [List.nil_append, List.flatten_cons, List.cons_append]
        exact congrArg (x :: ·) h1
      · intro c hc
        rcases List.mem_cons.1 hc with rfl | hc
        · exact ⟨x, _, rfl, hx⟩
        · exact h3 c hc
      · unfold Ev.clks at *
        simp [hx, h4]
      · simp [hx, h5]
    · rw [if_neg hx]
      refine ⟨?_, ?_, h3, ?_, ?_⟩
      · simp only [List.cons_append]
        exact congrArg (x :: ·) h1
      · intro y hy
        rcases List.mem_cons.1 hy with rfl | hy
        · exact hx
        · exact h2 y hy
      · unfold Ev.clks at *
        simp [hx, h4]
      · simp [hx, h5]
theorem mem_sum : ∀ (l : List Nat) (x : Nat), x ∈ l → x ≤ l.sum
  | [], x, h => by cases h
  | y :: l, x, h => by
    rw [List.sum_cons]
    rcases List.mem_cons.1 h with rfl | h
    · omega
    · have := mem_sum l x h; omega
theorem Ev.chk1_more {x : Ev} (hx : ¬ x.k = 1) (p : List Ev) (D : List (List Ev)) (d : List Ev) : (Ev.chk1 x (p, D ++ [d])).2 = D ++ [d ++ [x]] := by
  unfold Ev.chk1
  rw [if_neg hx]
  cases D with
  | nil => simp
  | cons y D =>
    show (y :: (D ++ [d])).dropLast ++ [(y :: (D ++ [d])).getLastD [] ++ [x]] = _
    have e1 : (y :: (D ++ [d])).dropLast = y :: D := by
      show ((y :: D) ++ [d]).dropLast = _
      exact List.dropLast_concat
    have e2 : (y :: (D ++ [d])).getLastD [] = d := by
      show ((y :: D) ++ [d]).getLastD [] = d
      rw [List.getLastD_eq_getLast?, List.getLast?_concat]
      rfl
    rw [e1, e2]
def slq (q : Option Addr × Nat × Nat) : Value := .slice q.1 q.2.1 q.2.2
theorem slq_at {Q : List (Option Addr × Nat × Nat)} {i : Nat} {q : Option Addr × Nat × Nat} (h : Q[i]? = some q) : (Q.map slq)[i]? = some (.slice q.1 q.2.1 q.2.2) := by rw [List.getElem?_map, h]; rfl
/-- Rows of events, one by one, in a row of their own. -/
def RR (W : World) (B : Nat) (r : Option Addr) (n c : Nat) (cs : List (List Ev)) : Prop := ∃ Q : List (Option Addr × Nat × Nat), RM W B r n c 1 (Q.map slq) 22 ∧ Q.length = cs.length ∧ n = cs.length ∧ (∀ (i : Nat) q d, Q[i]? = some q → cs[i]? = some d → q.2.1 = d.length ∧ RM W B q.1 q.2.1 q.2.2 12 (evs d) 46) ∧ (∀ (i j : Nat) q q', i < j → Q[i]? = some q → Q[j]? = some q' → ∀ g ∈ rvB q'.1, g ∉ rvB q.1)
theorem RR.nil (W : World) (B : Nat) (h : B ≤ W.heap.size) : RR W B none 0 0 [] := ⟨[], RM.nil _ _ _ _ h, rfl, rfl, fun i q d h => by simp at h, fun i j q q' _ h => by simp at h⟩
theorem RR.same {W W' : World} {B : Nat} {r : Option Addr} {n c : Nat} {cs : List (List Ev)} (h : RR W B r n c cs) (k : Chg [] W W') : RR W' B r n c cs := by
  obtain ⟨Q, h1, h2, h3, h4, h5⟩ := h
  exact ⟨Q, h1.chg k (by simp), h2, h3, fun i q d hq hd => ⟨(h4 i q d hq hd).1, (h4 i q d hq hd).2.chg k (by simp)⟩, h5⟩
/-- A row more, empty. -/
theorem RR.more {W W' : World} {B : Nat} {r : Option Addr} {n c : Nat} {cs : List (List Ev)} {Q : List (Option Addr × Nat × Nat)} (h1 : RM W B r n c 1 (Q.map slq) 22) (h2 : Q.length = cs.length) (h3 : n = cs.length) (h4 : ∀ (i : Nat) q d, Q[i]? = some q → cs[i]? = some d → q.2.1 = d.length ∧ RM W B q.1 q.2.1 q.2.2 12 (evs d) 46) (h5 : ∀ (i j : Nat) q q', i < j → Q[i]? = some q → Q[j]? = some q' → ∀ g ∈ rvB q'.1, g ∉ rvB q.1) {r' : Option Addr} {c' : Nat} (hr : RM W' B r' (n + 1) c' 1 (Q.map slq ++ [.slice none 0 0]) 22) (k : Chg (rvB r) W W') : RR W' B r' (n + 1) c' (cs ++ [[]]) := by
  refine ⟨Q ++ [(none, 0, 0)], by rw [List.map_append]; exact hr, by simp [h2], by simp [h3], fun i q d hq hd => ?_, fun i j q q' hij hq hq' => ?_⟩
  · by_cases hi : i < Q.length
    · rw [List.getElem?_append_left hi] at hq
      rw [List.getElem?_append_left (by omega)] at hd
      exact ⟨(h4 i q d hq hd).1, (h4 i q d hq hd).2.chg k (rm_ne (h4 i q d hq hd).2 h1 (by decide))⟩
    · have e : i = Q.length := by
        have := (List.getElem?_eq_some_iff.1 hq).1
        simp at this; omega
      subst e
      rw [List.getElem?_append_right (Nat.le_refl _)] at hq
      rw [h2, List.getElem?_append_right (Nat.le_refl _)] at hd
      simp at hq hd
      subst hq hd
      exact ⟨rfl, RM.nil _ _ _ _ hr.2.1⟩
  · by_cases hj : j < Q.length
    · rw [List.getElem?_append_left hj] at hq'
      rw [List.getElem?_append_left (by omega)] at hq
      exact h5 i j q q' hij hq hq'
    · have e : j = Q.length := by
        have := (List.getElem?_eq_some_iff.1 hq').1
        simp at this; omega
      subst e
      rw [List.getElem?_append_right (Nat.le_refl _)] at hq'
      simp at hq'
      subst hq'
      simp [rvB]
theorem Rn.setv {w : World} {g c : Nat} {L : List Value} {T : TypeId} (h : Rn w g c 1 L T) {i : Nat} (hi : i < L.length) (v : Value) : Rn (w.setCell ⟨g, i, none⟩ v) g c 1 (L.set i v) T := by
  obtain ⟨rest, h1, h2, h3⟩ := h
  refine ⟨rest, by rw [List.length_set]; exact h1, h2, ?_⟩
  have := h3.set i v
  rw [List.set_append_left _ _ hi] at this
  exact this
/-- The last row has grown, and is stored. -/
theorem RR.last {W W' : World} {B : Nat} {gr n c : Nat} {cs : List (List Ev)} {Q : List (Option Addr × Nat × Nat)} {d : List Ev} {a : Option Addr} {m k0 : Nat} (h1 : RM W B (some ⟨gr, 0, none⟩) (n + 1) c 1 ((Q ++ [(a, m, k0)]).map slq) 22) (h2 : Q.length = cs.length) (h3 : n = cs.length) (h4 : ∀ (i : Nat) q d', (Q ++ [(a, m, k0)])[i]? = some q → (cs ++ [d])[i]? = some d' → q.2.1 = d'.length ∧ RM W B q.1 q.2.1 q.2.2 12 (evs d') 46) (h5 : ∀ (i j : Nat) q q', i < j → (Q ++ [(a, m, k0)])[i]? = some q → (Q ++ [(a, m, k0)])[j]? = some q' → ∀ g ∈ rvB q'.1, g ∉ rvB q.1) {x : Ev} {g' c' : Nat} (hr : RM W' B (some ⟨g', 0, none⟩) (m + 1) c' 12 (evs d ++ x.c) 46) (hg : g' ∈ rvB a ∨ W.heap.size ≤ g') (k : Chg (rvB a) W W') :
    RR (W'.setCell ⟨gr, n, none⟩ (.slice (some ⟨g', 0, none⟩) (m + 1) c')) B (some ⟨gr, 0, none⟩) (n + 1) c (cs ++ [d ++ [x]]) := by
  have hlast := h4 n (a, m, k0) d (by rw [h3, ← h2, List.getElem?_append_right (Nat.le_refl _)]; simp) (by rw [h3, List.getElem?_append_right (Nat.le_refl _)]; simp)
  have ho := h1.chg k (rm_ne h1 hlast.2 (by decide))
  obtain ⟨e1, e2, ⟨e3, _⟩ | ⟨gg, e3, e4, e5⟩⟩ := ho
  · cases e3
  · injection e3 with e3
    injection e3 with e3
    subst e3
    have hgr : gr < W.heap.size := (h1.lt gr (by rw [rvB_some]; simp)).2
    have kc : Chg [gr] W' (W'.setCell ⟨gr, n, none⟩ (.slice (some ⟨g', 0, none⟩) (m + 1) c')) := (Chg.refl [gr] W').set (Or.inl (by simp)) _ _
    have hn : n < ((Q ++ [(a, m, k0)]).map slq).length := by simp; omega
    have hset : ((Q ++ [(a, m, k0)]).map slq).set n (.slice (some ⟨g', 0, none⟩) (m + 1) c') = (Q ++ [((some ⟨g', 0, none⟩ : Option Addr), m + 1, c')]).map slq := by
      rw [List.map_append, List.map_append, List.set_append_right _ _ (by simp; omega)]
      simp [h2, h3, slq]
    have hrow := e5.setv hn (.slice (some ⟨g', 0, none⟩) (m + 1) c')
    rw [hset] at hrow
    have grne : ∀ {r2 : Option Addr} {n2 c2 : Nat} {L2 : List Value}, RM W' B r2 n2 c2 12 L2 46 → ∀ g ∈ rvB r2, g ∉ [gr] := fun hm g hg2 h => by
      simp at h; subst h
      obtain ⟨rest, _, _, hb⟩ := e5
      exact rm_ty hm hb (by decide) hg2
    have hRM : RM (W'.setCell ⟨gr, n, none⟩ (.slice (some ⟨g', 0, none⟩) (m + 1) c')) B (some ⟨gr, 0, none⟩) (n + 1) c 1 ((Q ++ [((some ⟨g', 0, none⟩ : Option Addr), m + 1, c')]).map slq) 22 := by
      refine ⟨?_, ?_, Or.inr ⟨gr, rfl, e4, hrow⟩⟩
      · rw [List.length_map, List.length_append, h2, ← h3]; simp
      · exact Nat.le_trans e2 kc.size
    refine ⟨Q ++ [((some ⟨g', 0, none⟩ : Option Addr), m + 1, c')], hRM, by simp [h2], by simp [h3], fun i q d' hq hd => ?_, fun i j q q' hij hq hq' => ?_⟩
    · by_cases hi : i < Q.length
      · rw [List.getElem?_append_left hi] at hq
        rw [List.getElem?_append_left (by omega)] at hd
        have h6 := h4 i q d' (by rw [List.getElem?_append_left hi]; exact hq) (by rw [List.getElem?_append_left (by omega)]; exact hd)
        have h7 := h5 i Q.length q (a, m, k0) hi (by rw [List.getElem?_append_left hi]; exact hq) (by rw [List.getElem?_append_right (Nat.le_refl _)]; simp)
        have h8 := h6.2.chg k (fun g hg2 hg3 => h7 g hg3 hg2)
        exact ⟨h6.1, h8.chg kc (grne h8)⟩
      · have e : i = Q.length := by
          have := (List.getElem?_eq_some_iff.1 hq).1
          simp at this; omega
        subst e
        rw [List.getElem?_append_right (Nat.le_refl _)] at hq
        rw [h2, List.getElem?_append_right (Nat.le_refl _)] at hd
        simp at hq hd
        subst hq hd
        refine ⟨by have := hlast.1; simp at this ⊢; omega, ?_⟩
        rw [evs_snoc]
        exact hr.chg kc (grne hr)
    · by_cases hj : j < Q.length
      · rw [List.getElem?_append_left hj] at hq'
        rw [List.getElem?_append_left (by omega)] at hq
        exact h5 i j q q' hij (by rw [List.getElem?_append_left (by omega)]; exact hq) (by rw [List.getElem?_append_left hj]; exact hq')
      · have e : j = Q.length := by
          have := (List.getElem?_eq_some_iff.1 hq').1
          simp at this; omega
        subst e
        rw [List.getElem?_append_right (Nat.le_refl _)] at hq'
        rw [List.getElem?_append_left hij] at hq
        simp at hq'
        subst hq'
        intro g hg2 hg3
        rw [rvB_some] at hg2
        simp at hg2
        subst hg2
        have hqi : (Q ++ [(a, m, k0)])[i]? = some q := by rw [List.getElem?_append_left hij]; exact hq
        obtain ⟨di, hdi⟩ : ∃ di, (cs ++ [d])[i]? = some di := ⟨_, List.getElem?_eq_getElem (by simp; omega)⟩
        rcases hg with hg | hg
        · exact h5 i Q.length q (a, m, k0) hij hqi (by rw [List.getElem?_append_right (Nat.le_refl _)]; simp) _ hg hg3
        · have := ((h4 i q di hqi hdi).2.lt _ hg3).2
          omega
/-- Rows of events, the last one told apart. -/
def QQ (W : World) (B gr n c : Nat) (cs : List (List Ev)) (d : List Ev) (Q : List (Option Addr × Nat × Nat)) (a : Option Addr) (m k0 : Nat) : Prop := RM W B (some ⟨gr, 0, none⟩) (n + 1) c 1 ((Q ++ [(a, m, k0)]).map slq) 22 ∧ Q.length = cs.length ∧ n = cs.length ∧ (∀ (i : Nat) q d', (Q ++ [(a, m, k0)])[i]? = some q → (cs ++ [d])[i]? = some d' → q.2.1 = d'.length ∧ RM W B q.1 q.2.1 q.2.2 12 (evs d') 46) ∧ (∀ (i j : Nat) q q', i < j → (Q ++ [(a, m, k0)])[i]? = some q → (Q ++ [(a, m, k0)])[j]? = some q' → ∀ g ∈ rvB q'.1, g ∉ rvB q.1)
theorem QQ.same {W W' : World} {B gr n c : Nat} {cs : List (List Ev)} {d : List Ev} {Q : List (Option Addr × Nat × Nat)} {a : Option Addr} {m k0 : Nat} (h : QQ W B gr n c cs d Q a m k0) (k : Chg [] W W') : QQ W' B gr n c cs d Q a m k0 :=
  ⟨h.1.chg k (by simp), h.2.1, h.2.2.1, fun i q d' hq hd => ⟨(h.2.2.2.1 i q d' hq hd).1, (h.2.2.2.1 i q d' hq hd).2.chg k (by simp)⟩, h.2.2.2.2⟩
theorem QQ.row {W : World} {B gr n c : Nat} {cs : List (List Ev)} {d : List Ev} {Q : List (Option Addr × Nat × Nat)} {a : Option Addr} {m k0 : Nat} (h : QQ W B gr n c cs d Q a m k0) : m = d.length ∧ RM W B a m k0 12 (evs d) 46 :=
  h.2.2.2.1 n (a, m, k0) d (by rw [h.2.2.1, ← h.2.1, List.getElem?_append_right (Nat.le_refl _)]; simp) (by rw [h.2.2.1, List.getElem?_append_right (Nat.le_refl _)]; simp)
theorem QQ.cell {W : World} {B gr n c : Nat} {cs : List (List Ev)} {d : List Ev} {Q : List (Option Addr × Nat × Nat)} {a : Option Addr} {m k0 : Nat} (h : QQ W B gr n c cs d Q a m k0) : W.cell? ⟨gr, n, none⟩ = some (.slice a m k0) ∧ W.frozen? ⟨gr, n, none⟩ = false ∧ gr < W.heap.size := by
  obtain ⟨_, _, ⟨u1, _⟩ | ⟨g1, u1, _, hr⟩⟩ := h.1
  · cases u1
  · injection u1 with u1
    injection u1 with u1
    subst u1
    refine ⟨hr.cell (slq_at (q := (a, m, k0)) (by rw [h.2.2.1, ← h.2.1, List.getElem?_append_right (Nat.le_refl _)]; simp)), ?_, hr.lt⟩
    obtain ⟨_, _, _, hb⟩ := hr
    exact hb.free _
theorem QQ.keep {W W' : World} {B gr n c : Nat} {cs : List (List Ev)} {d : List Ev} {Q : List (Option Addr × Nat × Nat)} {a : Option Addr} {m k0 : Nat} (h : QQ W B gr n c cs d Q a m k0) (k : Chg (rvB a) W W') : W'.cell? ⟨gr, n, none⟩ = some (.slice a m k0) ∧ W'.frozen? ⟨gr, n, none⟩ = false := by
  obtain ⟨_, _, ⟨u1, _⟩ | ⟨g1, u1, _, hr⟩⟩ := h.1
  · cases u1
  · injection u1 with u1
    injection u1 with u1
    subst u1
    obtain ⟨rest, s1, s2, hb⟩ := hr
    have hb2 := hb.chg k (rm_ty h.row.2 hb (by decide))
    exact ⟨Rn.cell ⟨rest, s1, s2, hb2⟩ (slq_at (q := (a, m, k0)) (by rw [h.2.2.1, ← h.2.1, List.getElem?_append_right (Nat.le_refl _)]; simp)), hb2.free _⟩
/-- Rows that are some: the last one told apart. -/
theorem RR.split {W : World} {B : Nat} {r : Option Addr} {n c : Nat} {D : List (List Ev)} {d : List Ev} (h : RR W B r n c (D ++ [d])) : ∃ gr n0 Q a m k0, r = some ⟨gr, 0, none⟩ ∧ n = n0 + 1 ∧ QQ W B gr n0 c D d Q a m k0 := by
  obtain ⟨Q, h1, h2, h3, h4, h5⟩ := h
  have hn : 0 < n := by rw [h3]; simp
  obtain ⟨gr, rfl, _, _⟩ := h1.row hn
  have hQ : Q ≠ [] := fun e => by rw [e] at h2; simp at h2
  obtain ⟨⟨a, m, k0⟩, hq⟩ : ∃ x, Q.getLast hQ = x := ⟨_, rfl⟩
  have e : Q.dropLast ++ [(a, m, k0)] = Q := by rw [← hq]; exact List.dropLast_concat_getLast hQ
  have hl : Q.dropLast.length = D.length := by rw [List.length_dropLast, h2]; simp
  have hn2 : n = D.length + 1 := by rw [h3]; simp
  refine ⟨gr, D.length, Q.dropLast, a, m, k0, rfl, hn2, ?_, hl, rfl, ?_, ?_⟩
  · rw [e, ← hn2]; exact h1
  · rw [e]; exact h4
  · rw [e]; exact h5
theorem info22 : (Tryd.prog.info? 22).map (fun i => (i.zero, i.size, i.bytes)) = some (some (.slice none 0 0), 1, 24) := by kernel_rfl
end Go.Proofs.YtdchedkhlfmpeaaDoor
