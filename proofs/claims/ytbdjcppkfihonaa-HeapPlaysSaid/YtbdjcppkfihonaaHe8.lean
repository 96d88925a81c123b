/- Heap: slices.Insert in the middle, with room. -/
import Derived.Test.YtbdjcppkfihonaaHe7
import Derived.WalkKit
import Derived.Lib.Overlaps
import Derived.Laws.CopyRow
import Derived.Lib.JoinLaws
import Derived.StillTailTactics
import Derived.Lib.SlBuf
import Derived.ProofKit
import Derived.Handy
import Derived.WalkLawsBesides
import Derived.WalkSpells
import Derived.Lib.Hide
import Derived.RegionTactic
import Derived.ChangeAlike
import Derived.WalkSmall
import Derived.Deep.QuietTactic
import Derived.BigQuiet
import Derived.OwnWalk
import Derived.Outline
import Derived.Deep.CutRange
import Derived.Deep.CutBlock
import Derived.LoopTactic
namespace Go.Proofs.Ytbdjcppkfihonaa
open Go.ChangeShapes Go.WideShapes Go.ChangeAt Go.RowKit
set_option linter.unusedSimpArgs false
set_option linter.unusedVariables false

set_option maxRecDepth 20000 in
set_option maxHeartbeats 4000000 in
/-- An entry put in the middle, where there is room. -/
theorem he_insert_room (l : List (Int × Int)) (n i : Nat) (hn : l.length = n) (hn6 : n ≤ 100000) (hi : i < n) (x1 x2 : Int) (g c vb : Nat) (hroom : n + 1 ≤ c) (w : World) (h : Rn w g c 2 (es l) 38) (hv : Blk w vb [.int .i64 x1, .int .i64 x2] 38) (hvg : vb ≠ g) :
    Calls Try.prog 56 #[.slice (some ⟨g, 0, none⟩) n c, .int .i64 i, .slice (some ⟨vb, 0, none⟩) 1 1] w fun e w' => e = .returned (.slice (some ⟨g, 0, none⟩) (n + 1) c) ∧ Rn w' g c 2 (es (l.take i ++ (x1, x2) :: l.drop i)) 38 ∧ Chg [g] w w' := by
  obtain ⟨rest, hr1, hc6, hB⟩ := h
  rw [es_length] at hr1
  rw [hn] at hr1
  have hu := Try.underlying25
  have hRn : Rn w g c 2 (es l) 38 := ⟨rest, by rw [es_length, hn]; exact hr1, hc6, hB⟩
  obtain ⟨C, hC⟩ : ∃ C, es (l.drop i) = C := ⟨_, rfl⟩
  have hCl : C.length = (n - i) * 2 := by rw [← hC, es_length, List.length_drop, hn]
  have hC1 : ∀ v ∈ C, v.oneCell' = true := by rw [← hC]; exact es_one _
  obtain ⟨A, hA⟩ : ∃ A, es (l.take i) = A := ⟨_, rfl⟩
  have hAl : A.length = i * 2 := by rw [← hA, es_length, List.length_take]; omega
  have eL : es l ++ rest = A ++ (C ++ rest) := by rw [es_cut l i, hA, hC, List.append_assoc]
  rw [eL] at hB
  obtain ⟨T2, R2, hT, hT2⟩ : ∃ T2 R2, C ++ rest = T2 ++ R2 ∧ T2.length = 2 := ⟨(C ++ rest).take 2, (C ++ rest).drop 2, (List.take_append_drop _ _).symm, by rw [List.length_take, List.length_append]; omega⟩
  have hR2 : R2.length + 2 = C.length + rest.length := by have := congrArg List.length hT; simp at this; omega
  have hX1 : (A ++ (C ++ rest)).take ((i + 1) * 2) ++ C ++ (A ++ (C ++ rest)).drop ((i + 1) * 2 + C.length) = A ++ (T2 ++ (C ++ R2.drop C.length)) := by
    rw [hT, ← List.append_assoc A T2 R2, lay_at (A ++ T2) R2 C ((i + 1) * 2) (by rw [List.length_append]; omega)]
    simp [List.append_assoc]
  have hX2 : (A ++ (T2 ++ (C ++ R2.drop C.length))).take (i * 2) ++ [.int .i64 x1, .int .i64 x2] ++ (A ++ (T2 ++ (C ++ R2.drop C.length))).drop (i * 2 + 2) = es (l.take i ++ (x1, x2) :: l.drop i) ++ R2.drop C.length := by
    have := lay_at A (T2 ++ (C ++ R2.drop C.length)) [.int .i64 x1, .int .i64 x2] (i * 2) hAl
    simp only [List.length_cons, List.length_nil, Nat.zero_add, Nat.reduceAdd] at this
    rw [this, List.drop_append_of_le_length (by omega), List.drop_of_length_le (by omega), es_app, hA, show es ((x1, x2) :: l.drop i) = [.int .i64 x1, .int .i64 x2] ++ C by rw [← hC]; simp [es]]
    simp [List.append_assoc]
  have hcp1 : ∀ (ty : TypeId) (W : World), Blk W g (A ++ (C ++ rest)) 38 → (∀ j v, C[j]? = some v → W.cell? ((⟨g, i * 2, none⟩ : Addr).add j) = some v) → (Builtin.copy_ #[25, 25] ty #[.slice (some ⟨g, (i + 1) * 2, none⟩) (n - i) (c - (i + 1)), .slice (some ⟨g, i * 2, none⟩) (n + 1 - i) (c - i)]).run Try.prog W = .ok (goInt ((n - i : Nat) : Int)) (W.setRow g (A ++ (T2 ++ (C ++ R2.drop C.length))).toArray) := fun ty W hW hs => by
    rw [← hX1]
    exact run_copy_rowS W _ _ ty 38 g ((i + 1) * 2) _ _ ⟨g, i * 2, none⟩ _ _ (n - i) 2 _ 38 C hu sizeE hW (by omega) hCl hs (by rw [List.length_append, List.length_append]; omega) hC1
  have hcp2 : ∀ (ty : TypeId) (W : World), Blk W g (A ++ (T2 ++ (C ++ R2.drop C.length))) 38 → Blk W vb [.int .i64 x1, .int .i64 x2] 38 → (Builtin.copy_ #[25, 25] ty #[.slice (some ⟨g, i * 2, none⟩) (n + 1 - i) (c - i), .slice (some ⟨vb, 0, none⟩) 1 1]).run Try.prog W = .ok (goInt ((1 : Nat) : Int)) (W.setRow g (es (l.take i ++ (x1, x2) :: l.drop i) ++ R2.drop C.length).toArray) := fun ty W hW hs => by
    rw [← hX2]
    exact run_copy_rowS W _ _ ty 38 g (i * 2) _ _ ⟨vb, 0, none⟩ _ _ 1 2 _ 38 [.int .i64 x1, .int .i64 x2] hu sizeE hW (by omega) rfl (fun j v hj => by rw [Addr.add_lit, Nat.zero_add]; exact hs.cell hj) (by simp; omega) (by intro v hv; simp at hv; rcases hv with rfl | rfl <;> rfl)
  have hov : ∀ lb cb, (callFunc 72 #[.slice (some ⟨vb, 0, none⟩) 1 1, .slice (some ⟨g, (i + 1) * 2, none⟩) lb cb]).run Try.prog w = .ok (.value (.bool false)) w := fun lb cb => by
    rw [run_callFunc_extern Try.func72 (by kernel_rfl) (by kernel_rfl) (by kernel_rfl) (e := Extern.SlicesOverlaps.overlaps #[25, 25] #[4]) (by kernel_rfl),
      Lib.run_overlaps_apart w 25 4 38 hu 2 Try.sizeOf38 ⟨vb, 0, none⟩ ⟨g, (i + 1) * 2, none⟩ 1 1 lb cb hvg 38 38 2 (A ++ (C ++ rest)).length (by unfold Blk at hv; simp [World.shape?, hv]) (by unfold Blk at hB; simp [World.shape?, hB]) (by rw [List.length_append, List.length_append]; omega) (hv.free 0) (hv.free 2)]
    rfl
  have HF := Lib.hid (And.intro hB (And.intro hv (And.intro hcp1 (And.intro hcp2 (fun j v hj => es_src hRn i j v (by rw [hC]; exact hj) (by rw [hn]; omega) : ∀ j v, C[j]? = some v → w.cell? ((⟨g, i * 2, none⟩ : Addr).add j) = some v)))))
  have HL : Hid ((es (l.take i ++ (x1, x2) :: l.drop i)).length + (R2.drop C.length).length = c * 2 ∧ c ≤ 9223372036854775807) := Lib.hid ⟨by
    rw [es_length, List.length_drop, List.length_append, List.length_cons, List.length_take, List.length_drop]; omega, hc6⟩
  clear hcp1 hcp2 hB hv hX1 hX2 hR2 hT hT2 eL hAl hA hC1 hCl hC hRn hr1 hn
  have hw1 : IntKind.i64.wrap ((i : Int) + 1) = (i : Int) + 1 := IntWalk.i64_in _ (by omega)
  have hw2 : IntKind.i64.wrap ((n : Int) + 1) = (n : Int) + 1 := IntWalk.i64_in _ (by omega)
  have hb1 : (0 : Int) ≤ (i : Int) + 1 := by omega
  have hin : i ≤ n := by omega
  have htn : ((i : Int) + 1).toNat = i + 1 := by omega
  have htn2 : ((n : Int) + 1).toNat = n + 1 := by omega
  have hz1 : ¬ ((1 : Int) = 0) := by omega
  have hz2 : ¬ ((i : Int) = (n : Int)) := by omega
  have hb2 : ¬ (c = i + 1) := by omega
  have hb3 : (i : Int) ≤ (n : Int) + 1 := by omega
  have hb4 : ¬ (c = i) := by omega
  have hb5 : (i : Int) + 1 ≤ (n : Int) + 1 := by omega
  have hb6 : (n : Int) + 1 ≤ (c : Int) := by omega
  have hb7 : (i : Int) ≤ (n : Int) := by omega
  have hi0 : (0 : Int) ≤ (i : Int) := by omega
  go_enter Try.func56, Try.ntmps56
  go_wp2_with (first | (simp only [hov]) | fail)
  go_still_tail 8, (by kernel_rfl)
  change wpList _ _ _ _ _ w.drew
  refine Lib.wpList_copy_run _ rfl _ _ _ _ rfl _ _ rfl rfl (HF.out.2.2.1 _ _ HF.out.1.drew HF.out.2.2.2.2) ?_
  have HV : Hid (Blk (w.drew.setRow g (A ++ (T2 ++ (C ++ R2.drop C.length))).toArray) g (A ++ (T2 ++ (C ++ R2.drop C.length))) 38 ∧ Blk (w.drew.setRow g (A ++ (T2 ++ (C ++ R2.drop C.length))).toArray) vb [.int .i64 x1, .int .i64 x2] 38 ∧ Chg [g] w (w.drew.setRow g (A ++ (T2 ++ (C ++ R2.drop C.length))).toArray)) :=
    Lib.hid ⟨HF.out.1.drew.setRow, HF.out.2.1.drew.rowOther hvg _, ((Chg.refl [g] w).drew).row (Or.inl (by simp)) _⟩
  revert HV
  generalize (w.drew.setRow g (A ++ (T2 ++ (C ++ R2.drop C.length))).toArray) = W1
  intro HV
  go_wp2_with (refine Lib.wpList_copy_run _ rfl (.tmp 80) (.tmp 81) 25 25 rfl _ _ rfl rfl (HF.out.2.2.2.1 _ _ HV.out.1 HV.out.2.1) ?_)
  have HU : Hid (Rn (W1.setRow g (es (l.take i ++ (x1, x2) :: l.drop i) ++ R2.drop C.length).toArray) g c 2 (es (l.take i ++ (x1, x2) :: l.drop i)) 38 ∧ Chg [g] w (W1.setRow g (es (l.take i ++ (x1, x2) :: l.drop i) ++ R2.drop C.length).toArray)) :=
    Lib.hid ⟨⟨R2.drop C.length, HL.out.1, HL.out.2, HV.out.1.setRow⟩, HV.out.2.2.row (Or.inl (by simp)) _⟩
  go_ret
  exact ⟨rfl, HU.out⟩
end Go.Proofs.Ytbdjcppkfihonaa
