/- Heap: slices.Insert in the middle, without room. -/
import Derived.Test.YtbdjcppkfihonaaHe8
import Derived.WalkKit
import Derived.Lib.AppendZerosOnto
import Derived.ProofKit
import Derived.Handy
import Derived.WalkLawsBesides
import Derived.WalkSpells
import Derived.Lib.Hide
import Derived.RegionTactic
import Derived.ChangeAlike
import Derived.WalkSmall
import Derived.Deep.QuietTactic
import Derived.BigQuiet
import Derived.OwnWalk
import Derived.Outline
import Derived.Deep.CutRange
import Derived.Deep.CutBlock
import Derived.LoopTactic
namespace Go.Proofs.Ytbdjcppkfihonaa
open Go.ChangeShapes Go.WideShapes Go.ChangeAt Go.RowKit
set_option linter.unusedSimpArgs false
set_option linter.unusedVariables false

set_option maxRecDepth 20000 in
set_option maxHeartbeats 4000000 in
/-- An entry put in the middle, where there is no room. -/
theorem he_insert_grow (l : List (Int × Int)) (n i : Nat) (hn : l.length = n) (hn6 : n ≤ 100000) (hi : i < n) (x1 x2 : Int) (g c vb : Nat) (hroom : c < n + 1) (w : World) (h : Rn w g c 2 (es l) 38) (hv : Blk w vb [.int .i64 x1, .int .i64 x2] 38) :
    Calls Try.prog 56 #[.slice (some ⟨g, 0, none⟩) n c, .int .i64 i, .slice (some ⟨vb, 0, none⟩) 1 1] w fun e w' => ∃ g' c', e = .returned (.slice (some ⟨g', 0, none⟩) (n + 1) c') ∧ Rn w' g' c' 2 (es (l.take i ++ (x1, x2) :: l.drop i)) 38 ∧ w.heap.size ≤ g' ∧ Below w.heap.size w w' := by
  have hnc : n ≤ c := by have := h.len; rw [es_length, hn] at this; omega
  have hgl := h.lt
  have hvl := hv.lt
  have hu := Try.underlying25
  obtain ⟨C, hC⟩ : ∃ C, es (l.drop i) = C := ⟨_, rfl⟩
  have hCl : C.length = (n - i) * 2 := by rw [← hC, es_length, List.length_drop, hn]
  have hC1 : ∀ v ∈ C, v.oneCell' = true := by rw [← hC]; exact es_one _
  obtain ⟨A, hA⟩ : ∃ A, es (l.take i) = A := ⟨_, rfl⟩
  have hAl : A.length = i * 2 := by rw [← hA, es_length, List.length_take]; omega
  have eC : es l = A ++ C := by rw [es_cut l i, hA, hC]
  obtain ⟨i0, hi0, hz0, hzs, hzb⟩ := info_splitE infoE
  have hold : (Builtin.firstCells i0.size i (.slice (some ⟨g, 0, none⟩) i c)).run Try.prog w.drew = .ok A.toArray w.drew := by
    rw [hzs]
    exact run_firstCells_some w.drew 2 i ⟨g, 0, none⟩ i c A (by omega) (fun j v hj => by
      rw [Addr.add_lit, Nat.zero_add]
      have hjl : j < A.length := (List.getElem?_eq_some_iff.1 hj).1
      exact h.cell (by rw [eC, List.getElem?_append_left hjl]; exact hj))
  obtain ⟨G, hG⟩ : ∃ G, grownCap w (n + 1) c 38 = G := ⟨_, rfl⟩
  have hGn : n + 1 ≤ G := by rw [← hG]; exact grownCap_ge w _ _ _
  have hG63 : G ≤ 9223372036854775807 := by
    have := grownCap_le_maxLen w (n + 1) c 38 (by unfold maxLen; omega)
    rw [hG] at this
    unfold maxLen at this
    omega
  obtain ⟨Z, hZ⟩ : ∃ Z : List Value, (Builtin.zeroCells (Value.cells (.agg #[.int .i64 0, .int .i64 0])) (n + 1 - i)).toList ++ (Builtin.zeroCells (Value.cells (.agg #[.int .i64 0, .int .i64 0])) (G - (n + 1))).toList = Z := ⟨_, rfl⟩
  have ez : ∀ k, (Builtin.zeroCells (Value.cells (.agg #[.int .i64 0, .int .i64 0])) k).toList.length = k * 2 := fun k => by rw [Array.length_toList, size_zeroCells]; rfl
  have hZl : Z.length = (G - i) * 2 := by rw [← hZ, List.length_append, ez, ez]; omega
  have hrz : ∀ ty, (Builtin.append_ #[25, 3] ty #[.slice (some ⟨g, 0, none⟩) i c, .int .i64 ((n : Int) + 1 - (i : Int))]).run Try.prog w = .ok (.slice (some ⟨w.heap.size, 0, none⟩) (n + 1) G) (w.drew.alloc (.cells (A ++ Z).toArray 38)) := fun ty => by
    have hik : i + (n + 1 - i) = n + 1 := by omega
    have h := Lib.run_append_grow_zeros w 25 3 ty 38 i0 _ .i64 .i64 hu Try.underlying3 hi0 hz0 (some ⟨g, 0, none⟩) i c A hold (n + 1 - i) (by omega) (by omega) (by omega) (by omega) (by rw [hzb]; omega) (by rw [hik, hzb]; exact growslice_fits hroom (by omega))
    rw [hik, hG, show (((n + 1 - i : Nat)) : Int) = (n : Int) + 1 - (i : Int) by omega] at h
    rw [h, ← hZ]
    congr 2
    simp
  have hX1 : (A ++ Z).take (i * 2) ++ [Value.int .i64 x1, Value.int .i64 x2] ++ (A ++ Z).drop (i * 2 + 2) = (A ++ [Value.int .i64 x1, Value.int .i64 x2]) ++ Z.drop 2 := by
    have := lay_at A Z [Value.int .i64 x1, .int .i64 x2] (i * 2) hAl
    simp only [List.length_cons, List.length_nil, Nat.zero_add, Nat.reduceAdd] at this
    exact this
  have hX2 : ((A ++ [Value.int .i64 x1, Value.int .i64 x2]) ++ Z.drop 2).take ((i + 1) * 2) ++ C ++ ((A ++ [Value.int .i64 x1, Value.int .i64 x2]) ++ Z.drop 2).drop ((i + 1) * 2 + C.length) = es (l.take i ++ (x1, x2) :: l.drop i) ++ (Z.drop 2).drop C.length := by
    rw [lay_at (A ++ [Value.int .i64 x1, Value.int .i64 x2]) (Z.drop 2) C ((i + 1) * 2) (by rw [List.length_append, hAl]; simp; omega), es_app, hA, show es ((x1, x2) :: l.drop i) = [.int .i64 x1, .int .i64 x2] ++ C by rw [← hC]; simp [es]]
    simp [List.append_assoc]
  have hcp1 : ∀ (ty : TypeId) (W : World), Blk W w.heap.size (A ++ Z) 38 → Blk W vb [.int .i64 x1, .int .i64 x2] 38 → (Builtin.copy_ #[25, 25] ty #[.slice (some ⟨w.heap.size, i * 2, none⟩) (n + 1 - i) (G - i), .slice (some ⟨vb, 0, none⟩) 1 1]).run Try.prog W = .ok (goInt ((1 : Nat) : Int)) (W.setRow w.heap.size ((A ++ [Value.int .i64 x1, Value.int .i64 x2]) ++ Z.drop 2).toArray) := fun ty W hW hs => by
    rw [← hX1]
    exact run_copy_rowS W _ _ ty 38 w.heap.size (i * 2) _ _ ⟨vb, 0, none⟩ _ _ 1 2 _ 38 [.int .i64 x1, .int .i64 x2] hu sizeE hW (by omega) rfl (fun j v hj => by rw [Addr.add_lit, Nat.zero_add]; exact hs.cell hj) (by simp; omega) (by intro v hv; simp at hv; rcases hv with rfl | rfl <;> rfl)
  have hcp2 : ∀ (ty : TypeId) (W : World), Blk W w.heap.size ((A ++ [Value.int .i64 x1, Value.int .i64 x2]) ++ Z.drop 2) 38 → Rn W g c 2 (es l) 38 → (Builtin.copy_ #[25, 25] ty #[.slice (some ⟨w.heap.size, (i + 1) * 2, none⟩) (n - i) (G - (i + 1)), .slice (some ⟨g, i * 2, none⟩) (n - i) (c - i)]).run Try.prog W = .ok (goInt ((n - i : Nat) : Int)) (W.setRow w.heap.size (es (l.take i ++ (x1, x2) :: l.drop i) ++ (Z.drop 2).drop C.length).toArray) := fun ty W hW hs => by
    rw [← hX2]
    exact run_copy_rowS W _ _ ty 38 w.heap.size ((i + 1) * 2) _ _ ⟨g, i * 2, none⟩ _ _ (n - i) 2 _ 38 C hu sizeE hW (by omega) hCl (fun j v hj => es_src hs i j v (by rw [hC]; exact hj) (by rw [hn]; omega)) (by simp; omega) hC1
  have HF := Lib.hid (And.intro h (And.intro hv (And.intro hcp1 (And.intro hcp2 hrz))))
  have HL : Hid ((es (l.take i ++ (x1, x2) :: l.drop i)).length + ((Z.drop 2).drop C.length).length = G * 2 ∧ G ≤ 9223372036854775807) := Lib.hid ⟨by
    rw [es_length, List.length_drop, List.length_drop, List.length_append, List.length_cons, List.length_take, List.length_drop]; omega, hG63⟩
  clear hcp1 hcp2 h hv hX1 hX2 hrz hZl ez hZ hG hold hi0 hz0 hzs hzb eC hAl hA hC1 hCl hC hn
  have hw1 : IntKind.i64.wrap ((i : Int) + 1) = (i : Int) + 1 := IntWalk.i64_in _ (by omega)
  have hw2 : IntKind.i64.wrap ((n : Int) + 1) = (n : Int) + 1 := IntWalk.i64_in _ (by omega)
  have hb1 : (0 : Int) ≤ (i : Int) + 1 := by omega
  have hin : i ≤ n := by omega
  have htn : ((i : Int) + 1).toNat = i + 1 := by omega
  have hz1 : ¬ ((1 : Int) = 0) := by omega
  have hz2 : ¬ ((i : Int) = (n : Int)) := by omega
  have hz3 : (c : Int) < (n : Int) + 1 := by omega
  have hb2 : ¬ (G = i + 1) := by omega
  have hb3 : (i : Int) ≤ (n : Int) + 1 := by omega
  have hb4 : ¬ (G = i) := by omega
  have hb5 : (i : Int) + 1 ≤ (n : Int) + 1 := by omega
  have hb6 : ¬ (c = i) := by omega
  have hb7 : (i : Int) ≤ (n : Int) := by omega
  have hb8 : (i : Int) ≤ (c : Int) := by omega
  have hi0 : (0 : Int) ≤ (i : Int) := by omega
  have hvn : vb ≠ w.heap.size := by omega
  have hgn : g ≠ w.heap.size := by omega
  go_enter Try.func56, Try.ntmps56
  go_wp2_with (first
    | (at_builtin
       refine Lib.wpList_append_run _ rfl (.tmp 34) (.tmp 39) _ _ rfl _ _ rfl rfl _ _ (HF.out.2.2.2.2 _) ?_
       have HV : Hid (Blk (w.drew.alloc (.cells (A ++ Z).toArray 38)) w.heap.size (A ++ Z) 38 ∧ Blk (w.drew.alloc (.cells (A ++ Z).toArray 38)) vb [.int .i64 x1, .int .i64 x2] 38 ∧ Rn (w.drew.alloc (.cells (A ++ Z).toArray 38)) g c 2 (es l) 38 ∧ Below w.heap.size w (w.drew.alloc (.cells (A ++ Z).toArray 38))) :=
         Lib.hid ⟨Blk.new w.drew (A ++ Z) 38, HF.out.2.1.drew.alloc _, HF.out.1.chg (l := []) (((Chg.refl [] w).drew).alloc _) (by simp), ((Below.refl _ _).drew).alloc (Nat.le_refl _) _⟩
       revert HV
       generalize (w.drew.alloc (.cells (A ++ Z).toArray 38)) = W1
       intro HV)
    | (skip
       refine Lib.wpList_copy_run _ rfl (.tmp 43) (.tmp 44) 25 25 rfl _ _ rfl rfl (HF.out.2.2.1 _ _ HV.out.1 HV.out.2.1) ?_
       have HU : Hid (Blk (W1.setRow w.heap.size ((A ++ [Value.int .i64 x1, Value.int .i64 x2]) ++ Z.drop 2).toArray) w.heap.size ((A ++ [Value.int .i64 x1, Value.int .i64 x2]) ++ Z.drop 2) 38 ∧ Rn (W1.setRow w.heap.size ((A ++ [Value.int .i64 x1, Value.int .i64 x2]) ++ Z.drop 2).toArray) g c 2 (es l) 38 ∧ Below w.heap.size w (W1.setRow w.heap.size ((A ++ [Value.int .i64 x1, Value.int .i64 x2]) ++ Z.drop 2).toArray)) :=
         Lib.hid ⟨HV.out.1.setRow, HV.out.2.2.1.chg ((Chg.refl [w.heap.size] W1).row (Or.inl (by simp)) _) (by simpa using hgn), below_setRow HV.out.2.2.2 (Nat.le_refl _) _⟩
       revert HU
       generalize (W1.setRow w.heap.size ((A ++ [Value.int .i64 x1, Value.int .i64 x2]) ++ Z.drop 2).toArray) = W2
       intro HU))
  go_still_tail 8, (by kernel_rfl)
  change wpList _ _ _ _ _ W2.drew
  refine Lib.wpList_copy_run _ rfl _ _ _ _ rfl _ _ rfl rfl (HF.out.2.2.2.1 _ _ HU.out.1.drew (HU.out.2.1.chg (Chg.refl [] _).drew (by simp))) ?_
  have HX : Hid (Rn (W2.drew.setRow w.heap.size (es (l.take i ++ (x1, x2) :: l.drop i) ++ (Z.drop 2).drop C.length).toArray) w.heap.size G 2 (es (l.take i ++ (x1, x2) :: l.drop i)) 38 ∧ Below w.heap.size w (W2.drew.setRow w.heap.size (es (l.take i ++ (x1, x2) :: l.drop i) ++ (Z.drop 2).drop C.length).toArray)) :=
    Lib.hid ⟨⟨_, HL.out.1, HL.out.2, HU.out.1.drew.setRow⟩, below_setRow HU.out.2.2.drew (Nat.le_refl _) _⟩
  revert HX
  generalize (W2.drew.setRow w.heap.size (es (l.take i ++ (x1, x2) :: l.drop i) ++ (Z.drop 2).drop C.length).toArray) = W3
  intro HX
  go_wp2
  go_ret
  exact ⟨_, _, rfl, HX.out.1, Nat.le_refl _, HX.out.2⟩
end Go.Proofs.Ytbdjcppkfihonaa
