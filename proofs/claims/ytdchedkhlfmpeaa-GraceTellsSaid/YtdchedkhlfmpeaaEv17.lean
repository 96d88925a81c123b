/- Events: proj.Rounds. -/
import Derived.Test.YtdchedkhlfmpeaaEv16
import Derived.WalkKit
import Derived.ProofKit
import Derived.Handy
import Derived.WalkLawsBesides
import Derived.WalkSpells
import Derived.Lib.Hide
import Derived.Lib.SliceRun
import Derived.Deep.RegionLaw
import Derived.RegionTactic
import Derived.ChangeAlike
import Derived.WalkSmall
import Derived.Deep.QuietTactic
import Derived.BigQuiet
import Derived.OwnWalk
import Derived.Outline
import Derived.Deep.CutRange
import Derived.Deep.CutBlock
import Derived.LoopTactic
namespace Go.Proofs.Ytdchedkhlfmpeaa
open Go.ChangeShapes Go.WideShapes Go.ChangeAt Go.RowKit
set_option linter.unusedSimpArgs false
set_option linter.unusedVariables false

/-- What stands ahead of the first round, and the rounds. -/
def Ev.chk : List Ev → List Ev × List (List Ev)
  | [] => ([], [])
  | x :: L => if x.k = 1 then ([], (x :: (Ev.chk L).1) :: (Ev.chk L).2) else (x :: (Ev.chk L).1, (Ev.chk L).2)
/-- One more event. -/
def Ev.chk1 (x : Ev) (p : List Ev × List (List Ev)) : List Ev × List (List Ev) := if x.k = 1 then (p.1, p.2 ++ [[x]]) else match p.2 with
  | [] => (p.1 ++ [x], [])
  | c :: cs => (p.1, (c :: cs).dropLast ++ [(c :: cs).getLastD [] ++ [x]])
theorem Ev.chk_snoc (x : Ev) : ∀ (M : List Ev), Ev.chk (M ++ [x]) = Ev.chk1 x (Ev.chk M)
  | [] => by
    unfold Ev.chk1
    by_cases h : x.k = 1
    · simp [Ev.chk, h]
    · simp [Ev.chk, h]
  | y :: M => by
    rw [List.cons_append]
    unfold Ev.chk
    rw [Ev.chk_snoc x M]
    by_cases hy : y.k = 1
    · rw [if_pos hy, if_pos hy]
      unfold Ev.chk1
      by_cases hx : x.k = 1
      · simp [hx]
      · cases h2 : (Ev.chk M).2 with
        | nil => simp [hx]
        | cons c cs => simp [hx, List.getLastD]
    · rw [if_neg hy, if_neg hy]
      unfold Ev.chk1
      by_cases hx : x.k = 1
      · simp [hx]
      · cases h2 : (Ev.chk M).2 with
        | nil => simp [hx]
        | cons c cs => simp [hx]
theorem Ev.chk_all : ∀ (L : List Ev), L = (Ev.chk L).1 ++ (Ev.chk L).2.flatten ∧ (∀ y ∈ (Ev.chk L).1, y.k ≠ 1) ∧ (∀ c ∈ (Ev.chk L).2, ∃ y t, c = y :: t ∧ y.k = 1) ∧ Ev.clks L = (Ev.chk L).2.map (fun c => (c.head?.map Ev.t).getD 0) ∧ (L.filter (fun x => x.k == 1)).length = (Ev.chk L).2.length
  | [] => by simp [Ev.chk, Ev.clks]
  | x :: L => by
    obtain ⟨h1, h2, h3, h4, h5⟩ := Ev.chk_all L
    unfold Ev.chk
    by_cases hx : x.k = 1
    · rw [if_pos hx]
      refine ⟨?_, by simp, ?_, ?_, ?_⟩
      · simp only [List.nil_append, List.flatten_cons, List.cons_append]
        exact congrArg (x :: ·) h1
      · intro c hc
        rcases List.mem_cons.1 hc with rfl | hc
        · exact ⟨x, _, rfl, hx⟩
        · exact h3 c hc
      · unfold Ev.clks at *
        simp [hx, h4]
      · simp [hx, h5]
    · rw [if_neg hx]
      refine ⟨?_, ?_, h3, ?_, ?_⟩
      · simp only [List.cons_append]
        exact congrArg (x :: ·) h1
      · intro y hy
        rcases List.mem_cons.1 hy with rfl | hy
        · exact hx
        · exact h2 y hy
      · unfold Ev.clks at *
        simp [hx, h4]
      · simp [hx, h5]
theorem mem_sum : ∀ (l : List Nat) (x : Nat), x ∈ l → x ≤ l.sum
  | [], x, h => by cases h
  | y :: l, x, h => by
    rw [List.sum_cons]
    rcases List.mem_cons.1 h with rfl | h
    · omega
    · have := mem_sum l x h; omega
theorem Ev.chk1_more {x : Ev} (hx : ¬ x.k = 1) (p : List Ev) (D : List (List Ev)) (d : List Ev) : (Ev.chk1 x (p, D ++ [d])).2 = D ++ [d ++ [x]] := by
  unfold Ev.chk1
  rw [if_neg hx]
  cases D with
  | nil => simp
  | cons y D =>
    show (y :: (D ++ [d])).dropLast ++ [(y :: (D ++ [d])).getLastD [] ++ [x]] = _
    have e1 : (y :: (D ++ [d])).dropLast = y :: D := by
      show ((y :: D) ++ [d]).dropLast = _
      exact List.dropLast_concat
    have e2 : (y :: (D ++ [d])).getLastD [] = d := by
      show ((y :: D) ++ [d]).getLastD [] = d
      rw [List.getLastD_eq_getLast?, List.getLast?_concat]
      rfl
    rw [e1, e2]
def slq (q : Option Addr × Nat × Nat) : Value := .slice q.1 q.2.1 q.2.2
theorem slq_at {Q : List (Option Addr × Nat × Nat)} {i : Nat} {q : Option Addr × Nat × Nat} (h : Q[i]? = some q) : (Q.map slq)[i]? = some (.slice q.1 q.2.1 q.2.2) := by rw [List.getElem?_map, h]; rfl
/-- Rows of events, one by one, in a row of their own. -/
def RR (W : World) (B : Nat) (r : Option Addr) (n c : Nat) (cs : List (List Ev)) : Prop := ∃ Q : List (Option Addr × Nat × Nat), RM W B r n c 1 (Q.map slq) 22 ∧ Q.length = cs.length ∧ n = cs.length ∧ (∀ (i : Nat) q d, Q[i]? = some q → cs[i]? = some d → q.2.1 = d.length ∧ RM W B q.1 q.2.1 q.2.2 12 (evs d) 47) ∧ (∀ (i j : Nat) q q', i < j → Q[i]? = some q → Q[j]? = some q' → ∀ g ∈ rvB q'.1, g ∉ rvB q.1)
theorem RR.nil (W : World) (B : Nat) (h : B ≤ W.heap.size) : RR W B none 0 0 [] := ⟨[], RM.nil _ _ _ _ h, rfl, rfl, fun i q d h => by simp at h, fun i j q q' _ h => by simp at h⟩
theorem RR.same {W W' : World} {B : Nat} {r : Option Addr} {n c : Nat} {cs : List (List Ev)} (h : RR W B r n c cs) (k : Chg [] W W') : RR W' B r n c cs := by
  obtain ⟨Q, h1, h2, h3, h4, h5⟩ := h
  exact ⟨Q, h1.chg k (by simp), h2, h3, fun i q d hq hd => ⟨(h4 i q d hq hd).1, (h4 i q d hq hd).2.chg k (by simp)⟩, h5⟩
/-- A row more, empty. -/
theorem RR.more {W W' : World} {B : Nat} {r : Option Addr} {n c : Nat} {cs : List (List Ev)} {Q : List (Option Addr × Nat × Nat)} (h1 : RM W B r n c 1 (Q.map slq) 22) (h2 : Q.length = cs.length) (h3 : n = cs.length) (h4 : ∀ (i : Nat) q d, Q[i]? = some q → cs[i]? = some d → q.2.1 = d.length ∧ RM W B q.1 q.2.1 q.2.2 12 (evs d) 47) (h5 : ∀ (i j : Nat) q q', i < j → Q[i]? = some q → Q[j]? = some q' → ∀ g ∈ rvB q'.1, g ∉ rvB q.1) {r' : Option Addr} {c' : Nat} (hr : RM W' B r' (n + 1) c' 1 (Q.map slq ++ [.slice none 0 0]) 22) (k : Chg (rvB r) W W') : RR W' B r' (n + 1) c' (cs ++ [[]]) := by
  refine ⟨Q ++ [(none, 0, 0)], by rw [List.map_append]; exact hr, by simp [h2], by simp [h3], fun i q d hq hd => ?_, fun i j q q' hij hq hq' => ?_⟩
  · by_cases hi : i < Q.length
    · rw [List.getElem?_append_left hi] at hq
      rw [List.getElem?_append_left (by omega)] at hd
      exact ⟨(h4 i q d hq hd).1, (h4 i q d hq hd).2.chg k (rm_ne (h4 i q d hq hd).2 h1 (by decide))⟩
    · have e : i = Q.length := by
        have := (List.getElem?_eq_some_iff.1 hq).1
        simp at this; omega
      subst e
      rw [List.getElem?_append_right (Nat.le_refl _)] at hq
      rw [h2, List.getElem?_append_right (Nat.le_refl _)] at hd
      simp at hq hd
      subst hq hd
      exact ⟨rfl, RM.nil _ _ _ _ hr.2.1⟩
  · by_cases hj : j < Q.length
    · rw [List.getElem?_append_left hj] at hq'
      rw [List.getElem?_append_left (by omega)] at hq
      exact h5 i j q q' hij hq hq'
    · have e : j = Q.length := by
        have := (List.getElem?_eq_some_iff.1 hq').1
        simp at this; omega
      subst e
      rw [List.getElem?_append_right (Nat.le_refl _)] at hq'
      simp at hq'
      subst hq'
      simp [rvB]
theorem Rn.setv {w : World} {g c : Nat} {L : List Value} {T : TypeId} (h : Rn w g c 1 L T) {i : Nat} (hi : i < L.length) (v : Value) : Rn (w.setCell ⟨g, i, none⟩ v) g c 1 (L.set i v) T := by
  obtain ⟨rest, h1, h2, h3⟩ := h
  refine ⟨rest, by rw [List.length_set]; exact h1, h2, ?_⟩
  have := h3.set i v
  rw [List.set_append_left _ _ hi] at this
  exact this
/-- The last row has grown, and is stored. -/
theorem RR.last {W W' : World} {B : Nat} {gr n c : Nat} {cs : List (List Ev)} {Q : List (Option Addr × Nat × Nat)} {d : List Ev} {a : Option Addr} {m k0 : Nat} (h1 : RM W B (some ⟨gr, 0, none⟩) (n + 1) c 1 ((Q ++ [(a, m, k0)]).map slq) 22) (h2 : Q.length = cs.length) (h3 : n = cs.length) (h4 : ∀ (i : Nat) q d', (Q ++ [(a, m, k0)])[i]? = some q → (cs ++ [d])[i]? = some d' → q.2.1 = d'.length ∧ RM W B q.1 q.2.1 q.2.2 12 (evs d') 47) (h5 : ∀ (i j : Nat) q q', i < j → (Q ++ [(a, m, k0)])[i]? = some q → (Q ++ [(a, m, k0)])[j]? = some q' → ∀ g ∈ rvB q'.1, g ∉ rvB q.1) {x : Ev} {g' c' : Nat} (hr : RM W' B (some ⟨g', 0, none⟩) (m + 1) c' 12 (evs d ++ x.c) 47) (hg : g' ∈ rvB a ∨ W.heap.size ≤ g') (k : Chg (rvB a) W W') :
    RR (W'.setCell ⟨gr, n, none⟩ (.slice (some ⟨g', 0, none⟩) (m + 1) c')) B (some ⟨gr, 0, none⟩) (n + 1) c (cs ++ [d ++ [x]]) := by
  have hlast := h4 n (a, m, k0) d (by rw [h3, ← h2, List.getElem?_append_right (Nat.le_refl _)]; simp) (by rw [h3, List.getElem?_append_right (Nat.le_refl _)]; simp)
  have ho := h1.chg k (rm_ne h1 hlast.2 (by decide))
  obtain ⟨e1, e2, ⟨e3, _⟩ | ⟨gg, e3, e4, e5⟩⟩ := ho
  · cases e3
  · injection e3 with e3
    injection e3 with e3
    subst e3
    have hgr : gr < W.heap.size := (h1.lt gr (by rw [rvB_some]; simp)).2
    have kc : Chg [gr] W' (W'.setCell ⟨gr, n, none⟩ (.slice (some ⟨g', 0, none⟩) (m + 1) c')) := (Chg.refl [gr] W').set (Or.inl (by simp)) _ _
    have hn : n < ((Q ++ [(a, m, k0)]).map slq).length := by simp; omega
    have hset : ((Q ++ [(a, m, k0)]).map slq).set n (.slice (some ⟨g', 0, none⟩) (m + 1) c') = (Q ++ [((some ⟨g', 0, none⟩ : Option Addr), m + 1, c')]).map slq := by
      rw [List.map_append, List.map_append, List.set_append_right _ _ (by simp; omega)]
      simp [h2, h3, slq]
    have hrow := e5.setv hn (.slice (some ⟨g', 0, none⟩) (m + 1) c')
    rw [hset] at hrow
    have grne : ∀ {r2 : Option Addr} {n2 c2 : Nat} {L2 : List Value}, RM W' B r2 n2 c2 12 L2 47 → ∀ g ∈ rvB r2, g ∉ [gr] := fun hm g hg2 h => by
      simp at h; subst h
      obtain ⟨rest, _, _, hb⟩ := e5
      exact rm_ty hm hb (by decide) hg2
    have hRM : RM (W'.setCell ⟨gr, n, none⟩ (.slice (some ⟨g', 0, none⟩) (m + 1) c')) B (some ⟨gr, 0, none⟩) (n + 1) c 1 ((Q ++ [((some ⟨g', 0, none⟩ : Option Addr), m + 1, c')]).map slq) 22 := by
      refine ⟨?_, ?_, Or.inr ⟨gr, rfl, e4, hrow⟩⟩
      · rw [List.length_map, List.length_append, h2, ← h3]; simp
      · exact Nat.le_trans e2 kc.size
    refine ⟨Q ++ [((some ⟨g', 0, none⟩ : Option Addr), m + 1, c')], hRM, by simp [h2], by simp [h3], fun i q d' hq hd => ?_, fun i j q q' hij hq hq' => ?_⟩
    · by_cases hi : i < Q.length
      · rw [List.getElem?_append_left hi] at hq
        rw [List.getElem?_append_left (by omega)] at hd
        have h6 := h4 i q d' (by rw [List.getElem?_append_left hi]; exact hq) (by rw [List.getElem?_append_left (by omega)]; exact hd)
        have h7 := h5 i Q.length q (a, m, k0) hi (by rw [List.getElem?_append_left hi]; exact hq) (by rw [List.getElem?_append_right (Nat.le_refl _)]; simp)
        have h8 := h6.2.chg k (fun g hg2 hg3 => h7 g hg3 hg2)
        exact ⟨h6.1, h8.chg kc (grne h8)⟩
      · have e : i = Q.length := by
          have := (List.getElem?_eq_some_iff.1 hq).1
          simp at this; omega
        subst e
        rw [List.getElem?_append_right (Nat.le_refl _)] at hq
        rw [h2, List.getElem?_append_right (Nat.le_refl _)] at hd
        simp at hq hd
        subst hq hd
        refine ⟨by have := hlast.1; simp at this ⊢; omega, ?_⟩
        rw [evs_snoc]
        exact hr.chg kc (grne hr)
    · by_cases hj : j < Q.length
      · rw [List.getElem?_append_left hj] at hq'
        rw [List.getElem?_append_left (by omega)] at hq
        exact h5 i j q q' hij (by rw [List.getElem?_append_left (by omega)]; exact hq) (by rw [List.getElem?_append_left hj]; exact hq')
      · have e : j = Q.length := by
          have := (List.getElem?_eq_some_iff.1 hq').1
          simp at this; omega
        subst e
        rw [List.getElem?_append_right (Nat.le_refl _)] at hq'
        rw [List.getElem?_append_left hij] at hq
        simp at hq'
        subst hq'
        intro g hg2 hg3
        rw [rvB_some] at hg2
        simp at hg2
        subst hg2
        have hqi : (Q ++ [(a, m, k0)])[i]? = some q := by rw [List.getElem?_append_left hij]; exact hq
        obtain ⟨di, hdi⟩ : ∃ di, (cs ++ [d])[i]? = some di := ⟨_, List.getElem?_eq_getElem (by simp; omega)⟩
        rcases hg with hg | hg
        · exact h5 i Q.length q (a, m, k0) hij hqi (by rw [List.getElem?_append_right (Nat.le_refl _)]; simp) _ hg hg3
        · have := ((h4 i q di hqi hdi).2.lt _ hg3).2
          omega
/-- Rows of events, the last one told apart. -/
def QQ (W : World) (B gr n c : Nat) (cs : List (List Ev)) (d : List Ev) (Q : List (Option Addr × Nat × Nat)) (a : Option Addr) (m k0 : Nat) : Prop := RM W B (some ⟨gr, 0, none⟩) (n + 1) c 1 ((Q ++ [(a, m, k0)]).map slq) 22 ∧ Q.length = cs.length ∧ n = cs.length ∧ (∀ (i : Nat) q d', (Q ++ [(a, m, k0)])[i]? = some q → (cs ++ [d])[i]? = some d' → q.2.1 = d'.length ∧ RM W B q.1 q.2.1 q.2.2 12 (evs d') 47) ∧ (∀ (i j : Nat) q q', i < j → (Q ++ [(a, m, k0)])[i]? = some q → (Q ++ [(a, m, k0)])[j]? = some q' → ∀ g ∈ rvB q'.1, g ∉ rvB q.1)
theorem QQ.same {W W' : World} {B gr n c : Nat} {cs : List (List Ev)} {d : List Ev} {Q : List (Option Addr × Nat × Nat)} {a : Option Addr} {m k0 : Nat} (h : QQ W B gr n c cs d Q a m k0) (k : Chg [] W W') : QQ W' B gr n c cs d Q a m k0 :=
  ⟨h.1.chg k (by simp), h.2.1, h.2.2.1, fun i q d' hq hd => ⟨(h.2.2.2.1 i q d' hq hd).1, (h.2.2.2.1 i q d' hq hd).2.chg k (by simp)⟩, h.2.2.2.2⟩
theorem QQ.row {W : World} {B gr n c : Nat} {cs : List (List Ev)} {d : List Ev} {Q : List (Option Addr × Nat × Nat)} {a : Option Addr} {m k0 : Nat} (h : QQ W B gr n c cs d Q a m k0) : m = d.length ∧ RM W B a m k0 12 (evs d) 47 :=
  h.2.2.2.1 n (a, m, k0) d (by rw [h.2.2.1, ← h.2.1, List.getElem?_append_right (Nat.le_refl _)]; simp) (by rw [h.2.2.1, List.getElem?_append_right (Nat.le_refl _)]; simp)
theorem QQ.cell {W : World} {B gr n c : Nat} {cs : List (List Ev)} {d : List Ev} {Q : List (Option Addr × Nat × Nat)} {a : Option Addr} {m k0 : Nat} (h : QQ W B gr n c cs d Q a m k0) : W.cell? ⟨gr, n, none⟩ = some (.slice a m k0) ∧ W.frozen? ⟨gr, n, none⟩ = false ∧ gr < W.heap.size := by
  obtain ⟨_, _, ⟨u1, _⟩ | ⟨g1, u1, _, hr⟩⟩ := h.1
  · cases u1
  · injection u1 with u1
    injection u1 with u1
    subst u1
    refine ⟨hr.cell (slq_at (q := (a, m, k0)) (by rw [h.2.2.1, ← h.2.1, List.getElem?_append_right (Nat.le_refl _)]; simp)), ?_, hr.lt⟩
    obtain ⟨_, _, _, hb⟩ := hr
    exact hb.free _
theorem QQ.keep {W W' : World} {B gr n c : Nat} {cs : List (List Ev)} {d : List Ev} {Q : List (Option Addr × Nat × Nat)} {a : Option Addr} {m k0 : Nat} (h : QQ W B gr n c cs d Q a m k0) (k : Chg (rvB a) W W') : W'.cell? ⟨gr, n, none⟩ = some (.slice a m k0) ∧ W'.frozen? ⟨gr, n, none⟩ = false := by
  obtain ⟨_, _, ⟨u1, _⟩ | ⟨g1, u1, _, hr⟩⟩ := h.1
  · cases u1
  · injection u1 with u1
    injection u1 with u1
    subst u1
    obtain ⟨rest, s1, s2, hb⟩ := hr
    have hb2 := hb.chg k (rm_ty h.row.2 hb (by decide))
    exact ⟨Rn.cell ⟨rest, s1, s2, hb2⟩ (slq_at (q := (a, m, k0)) (by rw [h.2.2.1, ← h.2.1, List.getElem?_append_right (Nat.le_refl _)]; simp)), hb2.free _⟩
/-- Rows that are some: the last one told apart. -/
theorem RR.split {W : World} {B : Nat} {r : Option Addr} {n c : Nat} {D : List (List Ev)} {d : List Ev} (h : RR W B r n c (D ++ [d])) : ∃ gr n0 Q a m k0, r = some ⟨gr, 0, none⟩ ∧ n = n0 + 1 ∧ QQ W B gr n0 c D d Q a m k0 := by
  obtain ⟨Q, h1, h2, h3, h4, h5⟩ := h
  have hn : 0 < n := by rw [h3]; simp
  obtain ⟨gr, rfl, _, _⟩ := h1.row hn
  have hQ : Q ≠ [] := fun e => by rw [e] at h2; simp at h2
  obtain ⟨⟨a, m, k0⟩, hq⟩ : ∃ x, Q.getLast hQ = x := ⟨_, rfl⟩
  have e : Q.dropLast ++ [(a, m, k0)] = Q := by rw [← hq]; exact List.dropLast_concat_getLast hQ
  have hl : Q.dropLast.length = D.length := by rw [List.length_dropLast, h2]; simp
  have hn2 : n = D.length + 1 := by rw [h3]; simp
  refine ⟨gr, D.length, Q.dropLast, a, m, k0, rfl, hn2, ?_, hl, rfl, ?_, ?_⟩
  · rw [e, ← hn2]; exact h1
  · rw [e]; exact h4
  · rw [e]; exact h5
theorem info22 : (Try.prog.info? 22).map (fun i => (i.zero, i.size, i.bytes)) = some (some (.slice none 0 0), 1, 24) := by kernel_rfl
set_option maxRecDepth 20000 in
set_option maxHeartbeats 16000000 in
theorem pj_rounds (a : Option Addr) (len cap : Nat) (L : List Ev) (hl : L.length = len) (hlm : len ≤ 100000) (cs : List (List Ev)) (hcs : (Ev.chk L).2 = cs) (n : Nat) (hn : cs.length = n) (w : World) (HE : EL w a L) :
    Calls Try.prog 15 #[.slice a len cap] w fun e w' => ∃ r c, e = .returned (.slice r n c) ∧ RR w' w.heap.size r n c cs ∧ Below w.heap.size w w' := by
  have HL := Lib.hid (And.intro hl (And.intro HE (And.intro hcs hn)))
  clear hl HE hcs hn
  have H0 : Hid (RR w w.heap.size none 0 0 (Ev.chk (L.take 0)).2 ∧ Below w.heap.size w w) := Lib.hid ⟨RR.nil _ _ (Nat.le_refl _), Below.refl _ _⟩
  go_enter Try.func15, Try.ntmps15
  go_wp2_with fail
  go_loopw [3, 9] (fun o z wr => ∃ (j q c : Nat) (r : Option Addr), o = .slice r q c ∧ z = .int .i64 j ∧ j ≤ len ∧ q ≤ j ∧ Hid (RR wr w.heap.size r q c (Ev.chk (L.take j)).2 ∧ Below w.heap.size w wr)) (fun _ z _ => len - (intOf z).toNat)
  case atStart => exact ⟨0, 0, 0, none, rfl, rfl, by omega, by omega, H0⟩
  case round =>
    clear H0
    obtain ⟨j, q, c, r, rfl, rfl, hj, hq, HB⟩ := hrel
    have j0 : (0 : Int) ≤ (j : Int) := by omega
    by_cases hjl : j < len
    · have i1 : (j : Int) < (len : Int) := by omega
      have w1 : IntKind.i64.wrap ((j : Int) + 1) = (j : Int) + 1 := IntWalk.i64_in _ (by omega)
      obtain ⟨k, i, nn, t, b, e, s0, s1, s2, s3, s4, s5, es⟩ : ∃ k i nn t b e s0 s1 s2 s3 s4 s5, L[j]? = some ⟨k, i, nn, t, b, e, s0, s1, s2, s3, s4, s5⟩ := ⟨_, _, _, _, _, _, _, _, _, _, _, _, List.getElem?_eq_getElem (by rw [HL.out.1]; exact hjl)⟩
      obtain ⟨hb, ga, o, rfl, hgw, e0, e1, e2, e3, e4, e5, e6, e7, e8, e9, e10, e11⟩ := (HL.out.2.1.below HB.out.2).get es
      obtain ⟨cj, hcj⟩ : ∃ cj, (Ev.chk (L.take j)).2 = cj := ⟨_, rfl⟩
      have HS : Hid ((Ev.chk (L.take (j + 1))).2 = (Ev.chk1 ⟨k, i, nn, t, b, e, s0, s1, s2, s3, s4, s5⟩ ((Ev.chk (L.take j)).1, cj)).2) := Lib.hid (by rw [take_snocE es, Ev.chk_snoc, ← hcj])
      have HDL : Hid (∀ d ∈ cj, d.length ≤ 100000) := Lib.hid (fun d hd => by
        have h1 := (Ev.chk_all (L.take j)).1
        rw [hcj] at h1
        have h2 := congrArg List.length h1
        rw [List.length_append, List.length_flatten] at h2
        have h3 : d.length ≤ (cj.map List.length).sum := mem_sum _ _ (List.mem_map_of_mem hd)
        rw [List.length_take] at h2
        omega)
      rw [hcj] at HB
      clear es hcj hb
      go_upto_region 5 with fail
      have H2 : Hid (RR (wr.alloc (.cells #[.int .i64 k, .int .i64 i, .int .i64 nn, .int .i64 t, .string b, .int .i64 e, .int .i64 s0, .int .i64 s1, .int .i64 s2, .int .i64 s3, .int .i64 s4, .int .i64 s5] 47)) w.heap.size r q c cj ∧ Below w.heap.size w (wr.alloc (.cells #[.int .i64 k, .int .i64 i, .int .i64 nn, .int .i64 t, .string b, .int .i64 e, .int .i64 s0, .int .i64 s1, .int .i64 s2, .int .i64 s3, .int .i64 s4, .int .i64 s5] 47)) ∧ Blk (wr.alloc (.cells #[.int .i64 k, .int .i64 i, .int .i64 nn, .int .i64 t, .string b, .int .i64 e, .int .i64 s0, .int .i64 s1, .int .i64 s2, .int .i64 s3, .int .i64 s4, .int .i64 s5] 47)) wr.heap.size [.int .i64 k, .int .i64 i, .int .i64 nn, .int .i64 t, .string b, .int .i64 e, .int .i64 s0, .int .i64 s1, .int .i64 s2, .int .i64 s3, .int .i64 s4, .int .i64 s5] 47) := Lib.hid ⟨HB.out.1.same ((Chg.refl [] _).alloc _), HB.out.2.alloc HB.out.2.size _, Blk.newA _ _ _⟩
      clear e0 e1 e2 e3 e4 e5 e6 e7 e8 e9 e10 e11 hgw HB
      revert H2
      generalize (wr.alloc (.cells #[.int .i64 k, .int .i64 i, .int .i64 nn, .int .i64 t, .string b, .int .i64 e, .int .i64 s0, .int .i64 s1, .int .i64 s2, .int .i64 s3, .int .i64 s4, .int .i64 s5] 47)) = W1
      generalize wr.heap.size = X
      intro H2
      have d0 := H2.out.2.2.cell (i := 0) rfl
      by_cases h2 : k = 1
      · subst h2
        have HS2 : Hid ((Ev.chk (L.take (j + 1))).2 = cj ++ [[] ++ [⟨1, i, nn, t, b, e, s0, s1, s2, s3, s4, s5⟩]]) := Lib.hid (by rw [HS.out]; unfold Ev.chk1; rw [if_pos rfl]; rfl)
        obtain ⟨Q, z1, z2, z3, z4, z5⟩ := H2.out.1
        have HQ := Lib.hid (And.intro z1 (And.intro z2 (And.intro z3 (And.intro z4 z5))))
        clear z1 z2 z3 z4 z5
        go_upto_region 7 with (at_builtin; refine wpList_append_rm _ rfl (.tmp 16) (.tmp 17) 39 39 rfl 22 (.slice none 0 0) 1 24 Try.underlying39 info22 rfl w.heap.size r q c (Q.map slq) rfl (HQ.out.1.chg (l := []) ((Chg.refl [] W1).alloc _) (by simp)) _ rfl 1 (by omega) [.slice none 0 0] (Src.ofSlice _ Try.underlying39 ⟨_, 0, none⟩ 1 1 [.slice none 0 0] rfl (new_atE _ _ _) (by intro v hv; simp at hv; subst hv; rfl)) (by omega) (by omega) ?_; intro g4 c4 w4 r1 r2 r3; have HN : Hid (QQ w4 w.heap.size g4 q c4 cj [] Q none 0 0 ∧ Below w.heap.size w w4 ∧ Blk w4 X [.int .i64 1, .int .i64 i, .int .i64 nn, .int .i64 t, .string b, .int .i64 e, .int .i64 s0, .int .i64 s1, .int .i64 s2, .int .i64 s3, .int .i64 s4, .int .i64 s5] 47) := Lib.hid (by
            have ka : Chg [] W1 (W1.alloc (.cells #[.slice none 0 0] 22)) := (Chg.refl [] W1).alloc _
            obtain ⟨Q2, y1, y2, y3, y4, y5⟩ := RR.more (HQ.out.1.chg ka (by simp)) HQ.out.2.1 HQ.out.2.2.1 (fun i q d hq hd => ⟨(HQ.out.2.2.2.1 i q d hq hd).1, (HQ.out.2.2.2.1 i q d hq hd).2.chg ka (by simp)⟩) HQ.out.2.2.2.2 r1 r3
            have hM : Q2.map slq = (Q ++ [(none, 0, 0)]).map slq := by
              have e1 := y1; have e2 := r1
              obtain ⟨_, _, ⟨u1, _⟩ | ⟨g1, u1, _, u2⟩⟩ := e1
              · cases u1
              · obtain ⟨_, _, ⟨v1, _⟩ | ⟨g2, v1, _, v2⟩⟩ := e2
                · cases v1
                · rw [v1] at u1
                  injection u1 with u1
                  injection u1 with u1
                  subst u1
                  obtain ⟨s1, t1, _, b1⟩ := u2
                  obtain ⟨s2, t2, _, b2⟩ := v2
                  have e3 := Blk.uniq b1 b2
                  have l1 : (Q2.map slq).length = (Q.map slq ++ [Value.slice none 0 0]).length := by simp [y2, HQ.out.2.1]
                  have e4 := List.append_inj_left e3 l1
                  rw [e4, List.map_append]; rfl
            have inj : Q2 = Q ++ [(none, 0, 0)] := by
              have hi : ∀ (A B : List (Option Addr × Nat × Nat)), A.map slq = B.map slq → A = B := by
                intro A
                induction A with
                | nil => intro B h; cases B with
                  | nil => rfl
                  | cons b B => simp at h
                | cons a A ih => intro B h; cases B with
                  | nil => simp at h
                  | cons b B =>
                    simp only [List.map_cons, List.cons.injEq] at h
                    obtain ⟨a1, a2, a3⟩ := a
                    obtain ⟨b1, b2, b3⟩ := b
                    have h1 := h.1
                    unfold slq at h1
                    simp only [Value.slice.injEq] at h1
                    rw [ih B h.2, h1.1, h1.2.1, h1.2.2]
              exact hi _ _ hM
            subst inj
            refine ⟨⟨y1, HQ.out.2.1, HQ.out.2.2.1, y4, y5⟩, r3.onto (H2.out.2.1.alloc H2.out.2.1.size _) (by have := H2.out.2.1.size; simp; omega) (fun y hy => (HQ.out.1.lt y hy).1), (H2.out.2.2.alloc _).chg r3 (rm_ty HQ.out.1 H2.out.2.2 (by decide))⟩); clear r1 r2 r3)
        clear d0 H2 HQ
        have hq0 : (0 : Int) < ((q + 1 : Nat) : Int) := by omega
        have hq1 : (0 : Int) < (q : Int) + 1 := by omega
        have hw1 : IntKind.i64.wrap (((q + 1 : Nat) : Int) - 1) = (q : Int) := by rw [IntWalk.i64_in _ (by omega)]; omega
        have hw2 : IntKind.i64.wrap ((q : Int) + 1 - 1) = (q : Int) := by rw [IntWalk.i64_in _ (by omega)]; omega
        have hs1 : ((q + 1 : Nat) : Int) - 1 = (q : Int) := by omega
        have hs2 : (q : Int) + 1 - 1 = (q : Int) := by omega
        have hq2 : (0 : Int) ≤ (q : Int) := by omega
        have hq3 : (q : Int) < ((q + 1 : Nat) : Int) := by omega
        have hq4 : (q : Int) < (q : Int) + 1 := by omega
        have hq5 : q < q + 1 := by omega
        have hw3 : IntKind.i64.wrap (q : Int) = (q : Int) := IntWalk.i64_in _ (by omega)
        go_upto_region 9 with fail
        have p9 : w4.drew.cell? ⟨g4, q, none⟩ = some (.slice none 0 0) := HN.out.1.cell.1
        have f9 : w4.drew.frozen? ⟨g4, q, none⟩ = false := HN.out.1.cell.2.1
        have x0 : w4.drew.cell? ⟨X, 0, none⟩ = some (.int .i64 1) := HN.out.2.2.cell (i := 0) rfl
        have x1 : w4.drew.cell? ⟨X, 1, none⟩ = some (.int .i64 i) := HN.out.2.2.cell (i := 1) rfl
        have x2 : w4.drew.cell? ⟨X, 2, none⟩ = some (.int .i64 nn) := HN.out.2.2.cell (i := 2) rfl
        have x3 : w4.drew.cell? ⟨X, 3, none⟩ = some (.int .i64 t) := HN.out.2.2.cell (i := 3) rfl
        have x4 : w4.drew.cell? ⟨X, 4, none⟩ = some (.string b) := HN.out.2.2.cell (i := 4) rfl
        have x5 : w4.drew.cell? ⟨X, 5, none⟩ = some (.int .i64 e) := HN.out.2.2.cell (i := 5) rfl
        have x6 : w4.drew.cell? ⟨X, 6, none⟩ = some (.int .i64 s0) := HN.out.2.2.cell (i := 6) rfl
        have x7 : w4.drew.cell? ⟨X, 7, none⟩ = some (.int .i64 s1) := HN.out.2.2.cell (i := 7) rfl
        have x8 : w4.drew.cell? ⟨X, 8, none⟩ = some (.int .i64 s2) := HN.out.2.2.cell (i := 8) rfl
        have x9 : w4.drew.cell? ⟨X, 9, none⟩ = some (.int .i64 s3) := HN.out.2.2.cell (i := 9) rfl
        have x10 : w4.drew.cell? ⟨X, 10, none⟩ = some (.int .i64 s4) := HN.out.2.2.cell (i := 10) rfl
        have x11 : w4.drew.cell? ⟨X, 11, none⟩ = some (.int .i64 s5) := HN.out.2.2.cell (i := 11) rfl
        have lg := HN.out.1.cell.2.2
        have lX := HN.out.2.2.lt
        have np1 : ¬ g4 = w4.heap.size := by omega
        have np2 : ¬ w4.heap.size = g4 := by omega
        have np3 : ¬ X = w4.heap.size := by omega
        have np4 : ¬ w4.heap.size = X := by omega
        have p9a : (w4.alloc (.cells #[.int .i64 1, .int .i64 i, .int .i64 nn, .int .i64 t, .string b, .int .i64 e, .int .i64 s0, .int .i64 s1, .int .i64 s2, .int .i64 s3, .int .i64 s4, .int .i64 s5] 47)).cell? ⟨g4, q, none⟩ = some (.slice none 0 0) := (HN.out.1.same ((Chg.refl [] _).alloc _)).cell.1
        go_region_law (first
          | (refine step_append_rm rfl (.tmp 30) (.tmp 32) 22 22 rfl 47 (.agg #[.int .i64 0, .int .i64 0, .int .i64 0, .int .i64 0, .string ByteArray.empty, .int .i64 0, .int .i64 0, .int .i64 0, .int .i64 0, .int .i64 0, .int .i64 0, .int .i64 0]) 12 104 Try.underlying22 infoEv rfl w.heap.size none 0 0 (evs []) rfl (HN.out.1.same (((Chg.refl [] w4).alloc (.cells #[.int .i64 1, .int .i64 i, .int .i64 nn, .int .i64 t, .string b, .int .i64 e, .int .i64 s0, .int .i64 s1, .int .i64 s2, .int .i64 s3, .int .i64 s4, .int .i64 s5] 47)).drew)).row.2 _ rfl 1 (by omega) (Ev.c ⟨1, i, nn, t, b, e, s0, s1, s2, s3, s4, s5⟩) (Src.ofSlice _ Try.underlying22 ⟨_, 0, none⟩ 1 1 (Ev.c ⟨1, i, nn, t, b, e, s0, s1, s2, s3, s4, s5⟩) rfl (new_atE _ _ _) (Ev.c_one _)) (by omega) (by omega) ?_; intro g5 c5 w5 u1 u2 u3; have u4 := HN.out.1.same (((Chg.refl [] w4).alloc (.cells #[.int .i64 1, .int .i64 i, .int .i64 nn, .int .i64 t, .string b, .int .i64 e, .int .i64 s0, .int .i64 s1, .int .i64 s2, .int .i64 s3, .int .i64 s4, .int .i64 s5] 47)).drew); have HM : Hid (RR (w5.setCell ⟨g4, q, none⟩ (.slice (some ⟨g5, 0, none⟩) 1 c5)) w.heap.size (some ⟨g4, 0, none⟩) (q + 1) c4 (cj ++ [[] ++ [⟨1, i, nn, t, b, e, s0, s1, s2, s3, s4, s5⟩]]) ∧ Below w.heap.size w (w5.setCell ⟨g4, q, none⟩ (.slice (some ⟨g5, 0, none⟩) 1 c5))) := Lib.hid ⟨RR.last u4.1 u4.2.1 u4.2.2.1 u4.2.2.2.1 u4.2.2.2.2 u1 u2 u3, ((Chg.refl [g4] w5).set (Or.inl (by simp)) _ _).onto (u3.onto (HN.out.2.1.alloc HN.out.2.1.size _).drew (Nat.le_trans HN.out.2.1.size (by simp)) (fun y hy => (u4.row.2.lt y hy).1)) (Nat.le_trans (Nat.le_trans HN.out.2.1.size (by simp)) u3.size) (by simp; exact (HN.out.1.1.lt g4 (by rw [rvB_some]; simp)).1)⟩; have u5 := u4.keep u3; have p9m := u5.1; have f9m := u5.2; clear u1 u2 u3 u4 u5))
        all_goals
          go_wp2_with fail
          go_roundw
          case rel => exact ⟨j + 1, q + 1, c4, _, rfl, by go_num, by omega, by omega, Lib.hid ⟨by rw [HS2.out]; exact HM.out.1, HM.out.2⟩⟩
          case measure => simp [intOf]; omega
      · have h2b : (k == 1) = false := by simp [h2]
        rcases List.eq_nil_or_concat cj with hc | ⟨D, d, hc⟩
        · subst hc
          have HS2 : Hid ((Ev.chk (L.take (j + 1))).2 = []) := Lib.hid (by rw [HS.out]; unfold Ev.chk1; rw [if_neg (by simpa using h2)])
          obtain rfl : q = 0 := by obtain ⟨_, _, _, h3, _⟩ := H2.out.1; simpa using h3
          go_wp2_with fail
          go_roundw
          case rel => exact ⟨j + 1, 0, c, r, rfl, by go_num, by omega, by omega, Lib.hid ⟨by rw [HS2.out]; exact H2.out.1, H2.out.2.1⟩⟩
          case measure => simp [intOf]; omega
        · try rw [List.concat_eq_append] at hc
          subst hc
          obtain ⟨g4, q0, Q, a, m, k0, rfl, rfl, HQQ⟩ := H2.out.1.split
          have HS2 : Hid ((Ev.chk (L.take (j + 1))).2 = D ++ [d ++ [⟨k, i, nn, t, b, e, s0, s1, s2, s3, s4, s5⟩]]) := Lib.hid (by
            rw [HS.out]; exact Ev.chk1_more h2 _ D d)
          have HN : Hid (QQ W1 w.heap.size g4 q0 c D d Q a m k0 ∧ Below w.heap.size w W1 ∧ Blk W1 X [.int .i64 k, .int .i64 i, .int .i64 nn, .int .i64 t, .string b, .int .i64 e, .int .i64 s0, .int .i64 s1, .int .i64 s2, .int .i64 s3, .int .i64 s4, .int .i64 s5] 47) := Lib.hid ⟨HQQ, H2.out.2.1, H2.out.2.2⟩
          have hmd := HQQ.row.1
          have hdl : d.length ≤ 100000 := HDL.out d (by simp)
          have hm5 : m ≤ 100000 := by omega
          clear hmd hdl
          clear HQQ
          clear H2
          have hq0 : (0 : Int) < ((q0 + 1 : Nat) : Int) := by omega
          have hq1 : (0 : Int) < (q0 : Int) + 1 := by omega
          have hw1 : IntKind.i64.wrap (((q0 + 1 : Nat) : Int) - 1) = (q0 : Int) := by rw [IntWalk.i64_in _ (by omega)]; omega
          have hw2 : IntKind.i64.wrap ((q0 : Int) + 1 - 1) = (q0 : Int) := by rw [IntWalk.i64_in _ (by omega)]; omega
          have hs1 : ((q0 + 1 : Nat) : Int) - 1 = (q0 : Int) := by omega
          have hs2 : (q0 : Int) + 1 - 1 = (q0 : Int) := by omega
          have hq2 : (0 : Int) ≤ (q0 : Int) := by omega
          have hq3 : (q0 : Int) < ((q0 + 1 : Nat) : Int) := by omega
          have hq4 : (q0 : Int) < (q0 : Int) + 1 := by omega
          have hq5 : q0 < q0 + 1 := by omega
          have hw3 : IntKind.i64.wrap (q0 : Int) = (q0 : Int) := IntWalk.i64_in _ (by omega)
          go_upto_region 9 with fail
          have p9 : W1.drew.cell? ⟨g4, q0, none⟩ = some (.slice a m k0) := HN.out.1.cell.1
          have f9 : W1.drew.frozen? ⟨g4, q0, none⟩ = false := HN.out.1.cell.2.1
          have x0 : W1.drew.cell? ⟨X, 0, none⟩ = some (.int .i64 k) := HN.out.2.2.cell (i := 0) rfl
          have x1 : W1.drew.cell? ⟨X, 1, none⟩ = some (.int .i64 i) := HN.out.2.2.cell (i := 1) rfl
          have x2 : W1.drew.cell? ⟨X, 2, none⟩ = some (.int .i64 nn) := HN.out.2.2.cell (i := 2) rfl
          have x3 : W1.drew.cell? ⟨X, 3, none⟩ = some (.int .i64 t) := HN.out.2.2.cell (i := 3) rfl
          have x4 : W1.drew.cell? ⟨X, 4, none⟩ = some (.string b) := HN.out.2.2.cell (i := 4) rfl
          have x5 : W1.drew.cell? ⟨X, 5, none⟩ = some (.int .i64 e) := HN.out.2.2.cell (i := 5) rfl
          have x6 : W1.drew.cell? ⟨X, 6, none⟩ = some (.int .i64 s0) := HN.out.2.2.cell (i := 6) rfl
          have x7 : W1.drew.cell? ⟨X, 7, none⟩ = some (.int .i64 s1) := HN.out.2.2.cell (i := 7) rfl
          have x8 : W1.drew.cell? ⟨X, 8, none⟩ = some (.int .i64 s2) := HN.out.2.2.cell (i := 8) rfl
          have x9 : W1.drew.cell? ⟨X, 9, none⟩ = some (.int .i64 s3) := HN.out.2.2.cell (i := 9) rfl
          have x10 : W1.drew.cell? ⟨X, 10, none⟩ = some (.int .i64 s4) := HN.out.2.2.cell (i := 10) rfl
          have x11 : W1.drew.cell? ⟨X, 11, none⟩ = some (.int .i64 s5) := HN.out.2.2.cell (i := 11) rfl
          have lg := HN.out.1.cell.2.2
          have lX := HN.out.2.2.lt
          have np1 : ¬ g4 = W1.heap.size := by omega
          have np2 : ¬ W1.heap.size = g4 := by omega
          have np3 : ¬ X = W1.heap.size := by omega
          have np4 : ¬ W1.heap.size = X := by omega
          have p9a : (W1.alloc (.cells #[.int .i64 k, .int .i64 i, .int .i64 nn, .int .i64 t, .string b, .int .i64 e, .int .i64 s0, .int .i64 s1, .int .i64 s2, .int .i64 s3, .int .i64 s4, .int .i64 s5] 47)).cell? ⟨g4, q0, none⟩ = some (.slice a m k0) := (HN.out.1.same ((Chg.refl [] _).alloc _)).cell.1
          go_region_law (first
            | (refine step_append_rm rfl (.tmp 30) (.tmp 32) 22 22 rfl 47 (.agg #[.int .i64 0, .int .i64 0, .int .i64 0, .int .i64 0, .string ByteArray.empty, .int .i64 0, .int .i64 0, .int .i64 0, .int .i64 0, .int .i64 0, .int .i64 0, .int .i64 0]) 12 104 Try.underlying22 infoEv rfl w.heap.size a m k0 (evs d) rfl (HN.out.1.same (((Chg.refl [] W1).alloc (.cells #[.int .i64 k, .int .i64 i, .int .i64 nn, .int .i64 t, .string b, .int .i64 e, .int .i64 s0, .int .i64 s1, .int .i64 s2, .int .i64 s3, .int .i64 s4, .int .i64 s5] 47)).drew)).row.2 _ rfl 1 (by omega) (Ev.c ⟨k, i, nn, t, b, e, s0, s1, s2, s3, s4, s5⟩) (Src.ofSlice _ Try.underlying22 ⟨_, 0, none⟩ 1 1 (Ev.c ⟨k, i, nn, t, b, e, s0, s1, s2, s3, s4, s5⟩) rfl (new_atE _ _ _) (Ev.c_one _)) (by omega) (by omega) ?_; intro g5 c5 w5 u1 u2 u3; have u4 := HN.out.1.same (((Chg.refl [] W1).alloc (.cells #[.int .i64 k, .int .i64 i, .int .i64 nn, .int .i64 t, .string b, .int .i64 e, .int .i64 s0, .int .i64 s1, .int .i64 s2, .int .i64 s3, .int .i64 s4, .int .i64 s5] 47)).drew); have HM : Hid (RR (w5.setCell ⟨g4, q0, none⟩ (.slice (some ⟨g5, 0, none⟩) (m + 1) c5)) w.heap.size (some ⟨g4, 0, none⟩) (q0 + 1) c (D ++ [d ++ [⟨k, i, nn, t, b, e, s0, s1, s2, s3, s4, s5⟩]]) ∧ Below w.heap.size w (w5.setCell ⟨g4, q0, none⟩ (.slice (some ⟨g5, 0, none⟩) (m + 1) c5))) := Lib.hid ⟨RR.last u4.1 u4.2.1 u4.2.2.1 u4.2.2.2.1 u4.2.2.2.2 u1 u2 u3, ((Chg.refl [g4] w5).set (Or.inl (by simp)) _ _).onto (u3.onto (HN.out.2.1.alloc HN.out.2.1.size _).drew (Nat.le_trans HN.out.2.1.size (by simp)) (fun y hy => (u4.row.2.lt y hy).1)) (Nat.le_trans (Nat.le_trans HN.out.2.1.size (by simp)) u3.size) (by simp; exact (HN.out.1.1.lt g4 (by rw [rvB_some]; simp)).1)⟩; have u5 := u4.keep u3; have p9m := u5.1; have f9m := u5.2; clear u1 u2 u3 u4 u5))
          all_goals
            go_wp2_with fail
            go_roundw
            case rel => exact ⟨j + 1, q0 + 1, c, _, rfl, by go_num, by omega, by omega, Lib.hid ⟨by rw [HS2.out]; exact HM.out.1, HM.out.2⟩⟩
            case measure => simp [intOf]; omega
    · obtain rfl : j = len := by omega
      have i1 : ¬ (j : Int) < (j : Int) := by omega
      have HR : Hid (RR wr w.heap.size r q c cs ∧ q = n) := Lib.hid (by
        have h := HB.out.1
        rw [List.take_of_length_le (by rw [HL.out.1]; exact Nat.le_refl _), HL.out.2.2.1] at h
        refine ⟨h, ?_⟩
        obtain ⟨_, _, _, h3, _⟩ := h
        rw [h3]; exact HL.out.2.2.2)
      obtain rfl : q = n := HR.out.2
      go_wp2_with fail
      go_ret
      first
        | exact ⟨r, c, rfl, HR.out.1, HB.out.2⟩
        | exact ⟨r, ⟨c, rfl⟩, HR.out.1, HB.out.2⟩
end Go.Proofs.Ytdchedkhlfmpeaa
