/- Heap: slices.Insert at the end; copies of records. -/
import Derived.Test.YtbdjcppkfihonaaHe6
import Derived.WalkKit
import Derived.ProofKit
import Derived.Handy
import Derived.WalkLawsBesides
import Derived.WalkSpells
import Derived.Lib.Hide
import Derived.RegionTactic
import Derived.ChangeAlike
import Derived.WalkSmall
import Derived.Deep.QuietTactic
import Derived.BigQuiet
import Derived.OwnWalk
import Derived.Outline
import Derived.Deep.CutRange
import Derived.Deep.CutBlock
import Derived.LoopTactic
namespace Go.Proofs.Ytbdjcppkfihonaa
open Go.ChangeShapes Go.WideShapes Go.ChangeAt Go.RowKit
set_option linter.unusedSimpArgs false
set_option linter.unusedVariables false

/-- copy of records (sz cells each) into a row. -/
theorem run_copy_rowS {P : Program} (w : World) (dT sT ty elem : TypeId) (g o dLen dCap : Nat) (a : Addr) (sLen sCap k sz : Nat) (cur : List Value) (t : TypeId) (cs : List Value)
    (hu : P.underlying dT = some (.slice elem)) (hs : (P.info? elem).map (·.size) = some sz) (hg : Blk w g cur t) (hk' : min sLen dLen = k) (hn : cs.length = k * sz)
    (hsrc : ∀ j v, cs[j]? = some v → w.cell? (a.add j) = some v) (hfit : o + cs.length ≤ cur.length) (h1 : ∀ v ∈ cs, v.oneCell' = true) :
    (Builtin.copy_ #[dT, sT] ty #[.slice (some ⟨g, o, none⟩) dLen dCap, .slice (some a) sLen sCap]).run P w = .ok (goInt k) (w.setRow g (cur.take o ++ cs ++ cur.drop (o + cs.length)).toArray) := by
  have hl := run_loadCells_list (P := P) w a cs hsrc
  have hst := run_storeCells_at P g o t cs 0 cur.toArray w hg (by simpa using hfit) h1
  rw [hn] at hl
  have hk : Nat.min sLen dLen = k := hk'
  cases hq : P.info? elem with
  | none => simp [hq] at hs
  | some i =>
    have hi : i.size = sz := by simpa [hq] using hs
    simp [Builtin.copy_, run_underlying hu, Builtin.lenOf, Builtin.firstCells, sizeOf, typeInfo, hq, hi, hk, hl, hst]
theorem lay_at {α : Type} (A B C : List α) (o : Nat) (hA : A.length = o) : (A ++ B).take o ++ C ++ (A ++ B).drop (o + C.length) = A ++ C ++ B.drop C.length := by
  subst hA
  rw [List.take_left, ← List.drop_drop, List.drop_left]
theorem es_app (a b : List (Int × Int)) : es (a ++ b) = es a ++ es b := by simp [es]
theorem es_cut (l : List (Int × Int)) (i : Nat) : es l = es (l.take i) ++ es (l.drop i) := by rw [← es_app, List.take_append_drop]
theorem sizeE : (Try.prog.info? 38).map (·.size) = some 2 := by kernel_rfl
/-- Two cells of a row at the head of a block, as a source. -/
theorem es_src {w : World} {g cap : Nat} {l : List (Int × Int)} {T : TypeId} (h : Rn w g cap 2 (es l) T) (i : Nat) (j : Nat) (v : Value) (hj : (es (l.drop i))[j]? = some v) (hi : i ≤ l.length) : w.cell? ((⟨g, i * 2, none⟩ : Addr).add j) = some v := by
  rw [Addr.add_lit]
  refine h.cell ?_
  rw [es_cut l i, List.getElem?_append_right (by rw [es_length, List.length_take]; omega), es_length, List.length_take, show i * 2 + j - min i l.length * 2 = j by omega]
  exact hj
set_option maxRecDepth 20000 in
set_option maxHeartbeats 4000000 in
/-- An entry put at the end. -/
theorem he_insert_end (l : List (Int × Int)) (n : Nat) (hn : l.length = n) (hn6 : n ≤ 100000) (x1 x2 : Int) (base : Nat) (r : Option Addr) (c vb : Nat) (w : World) (h : RM w base r n c 2 (es l) 38) (hv : Blk w vb [.int .i64 x1, .int .i64 x2] 38) :
    Calls Try.prog 56 #[.slice r n c, .int .i64 n, .slice (some ⟨vb, 0, none⟩) 1 1] w fun e w' => ∃ g' c', e = .returned (.slice (some ⟨g', 0, none⟩) (n + 1) c') ∧ RM w' base (some ⟨g', 0, none⟩) (n + 1) c' 2 (es (l ++ [(x1, x2)])) 38 ∧ (g' ∈ rvB r ∨ w.heap.size ≤ g') ∧ Chg (rvB r) w w' := by
  have H := Lib.hid (And.intro hn (And.intro h hv))
  have hnc : n ≤ c ∧ c ≤ 9223372036854775807 := by
    obtain ⟨h0, h1, ⟨h2, h3, h4⟩ | ⟨g, h2, h3, h4⟩⟩ := h
    · omega
    · have := h4.len; rw [h0] at this
      obtain ⟨rest, k1, k2, k3⟩ := h4
      omega
  obtain ⟨hnc, hc6⟩ := hnc
  have hcase : (∃ g, r = some ⟨g, 0, none⟩) ∨ (r = none ∧ n = 0 ∧ c = 0) := by
    obtain ⟨h0, h1, h2 | ⟨g, h2, h3, h4⟩⟩ := h
    · exact Or.inr h2
    · exact Or.inl ⟨g, h2⟩
  have i0 : (0 : Int) ≤ (n : Int) := by omega
  have hz1 : ¬ ((1 : Int) = 0) := by omega
  clear hn h hv
  have hsrc : ∀ w', Chg (rvB r) w w' → w' = w → Src Try.prog 2 25 (.slice (some ⟨vb, 0, none⟩) 1 1) 1 [.int .i64 x1, .int .i64 x2] w := fun w' _ _ =>
    Src.ofSlice _ Try.underlying25 _ _ _ _ rfl (fun j u hj => by rw [Addr.add_lit, Nat.zero_add]; exact H.out.2.2.cell hj) (by intro v hv; simp at hv; rcases hv with rfl | rfl <;> rfl)
  have HS := Lib.hid (hsrc w (Chg.refl _ _) rfl)
  clear hsrc
  rcases hcase with ⟨g, rfl⟩ | ⟨rfl, hn0, hc0⟩
  · go_enter Try.func56, Try.ntmps56
    go_wp2_with (at_builtin; refine wpList_append_rm _ rfl (.tmp 23) (.tmp 24) 25 25 rfl 38 (.agg #[.int .i64 0, .int .i64 0]) 2 16 Try.underlying25 infoE rfl base (some ⟨g, 0, none⟩) n c (es l) rfl H.out.2.1 _ rfl 1 (by omega) [.int .i64 x1, .int .i64 x2] HS.out (by omega) (by omega) ?_; intro g' c' w' q1 q2 q3; rw [← es_snoc] at q1; have HQ := Lib.hid (And.intro q1 (And.intro q2 q3)); clear q1 q2 q3)
    all_goals
      go_ret
      exact ⟨g', c', rfl, HQ.out⟩
  · subst hn0 hc0
    go_enter Try.func56, Try.ntmps56
    go_wp2_with (at_builtin; refine wpList_append_rm _ rfl (.tmp 23) (.tmp 24) 25 25 rfl 38 (.agg #[.int .i64 0, .int .i64 0]) 2 16 Try.underlying25 infoE rfl base none 0 0 (es l) rfl H.out.2.1 _ rfl 1 (by omega) [.int .i64 x1, .int .i64 x2] HS.out (by omega) (by omega) ?_; intro g' c' w' q1 q2 q3; rw [← es_snoc] at q1; have HQ := Lib.hid (And.intro q1 (And.intro q2 q3)); clear q1 q2 q3)
    go_ret
    exact ⟨g', c', rfl, HQ.out⟩
end Go.Proofs.Ytbdjcppkfihonaa
