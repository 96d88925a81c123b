/- Heap: slices.Insert whatever the place; slices.Delete of one. -/
import Derived.Test.YtbdjcppkfihonaaHe9
import Derived.WalkKit
import Derived.Deep.RegionLaw
import Derived.Lib.SliceRun
import Derived.ProofKit
import Derived.Handy
import Derived.WalkLawsBesides
import Derived.WalkSpells
import Derived.Lib.Hide
import Derived.RegionTactic
import Derived.ChangeAlike
import Derived.WalkSmall
import Derived.Deep.QuietTactic
import Derived.BigQuiet
import Derived.OwnWalk
import Derived.Outline
import Derived.Deep.CutRange
import Derived.Deep.CutBlock
import Derived.LoopTactic
namespace Go.Proofs.Ytbdjcppkfihonaa
open Go.ChangeShapes Go.WideShapes Go.ChangeAt Go.RowKit
set_option linter.unusedSimpArgs false
set_option linter.unusedVariables false

/-- An entry put at a place. -/
theorem he_insert (l : List (Int × Int)) (n i : Nat) (hn : l.length = n) (hn6 : n ≤ 100000) (hi : i ≤ n) (x1 x2 : Int) (base : Nat) (r : Option Addr) (c vb : Nat) (w : World) (h : RM w base r n c 2 (es l) 38) (hv : Blk w vb [.int .i64 x1, .int .i64 x2] 38) (hvr : vb ∉ rvB r) :
    Calls Try.prog 56 #[.slice r n c, .int .i64 i, .slice (some ⟨vb, 0, none⟩) 1 1] w fun e w' => ∃ g' c', e = .returned (.slice (some ⟨g', 0, none⟩) (n + 1) c') ∧ RM w' base (some ⟨g', 0, none⟩) (n + 1) c' 2 (es (l.take i ++ (x1, x2) :: l.drop i)) 38 ∧ (g' ∈ rvB r ∨ w.heap.size ≤ g') ∧ Chg (rvB r) w w' := by
  rcases Nat.lt_or_ge i n with hlt | hge
  · obtain ⟨h0, h1, h2 | ⟨g, h2, h3, h4⟩⟩ := h
    · omega
    subst h2
    have hlen : (es (l.take i ++ (x1, x2) :: l.drop i)).length = (n + 1) * 2 := by rw [es_length, List.length_append, List.length_cons, List.length_take, List.length_drop]; omega
    have hvg : vb ≠ g := by rw [rvB_some] at hvr; simpa using hvr
    rcases Nat.lt_or_ge c (n + 1) with hr | hr
    · refine (he_insert_grow l n i hn hn6 hlt x1 x2 g c vb hr w h4 hv).mono ?_
      rintro e w' ⟨g', c', he, q1, q2, q3⟩
      have := q3.size
      exact ⟨g', c', he, ⟨hlen, by omega, Or.inr ⟨g', rfl, by omega, q1⟩⟩, Or.inr q2, Chg.of_fresh q3⟩
    · refine (he_insert_room l n i hn hn6 hlt x1 x2 g c vb hr w h4 hv hvg).mono ?_
      rintro e w' ⟨he, q1, q2⟩
      have := q2.size
      exact ⟨g, c, he, ⟨hlen, by omega, Or.inr ⟨g, rfl, h3, q1⟩⟩, Or.inl (by rw [rvB_some]; simp), by rw [rvB_some]; exact q2⟩
  · obtain rfl : i = n := by omega
    have e : l.take i ++ (x1, x2) :: l.drop i = l ++ [(x1, x2)] := by rw [List.take_of_length_le (by omega), List.drop_of_length_le (by omega)]
    rw [e]
    exact he_insert_end l i hn hn6 x1 x2 base r c vb w h hv
set_option maxRecDepth 20000 in
set_option maxHeartbeats 4000000 in
/-- One entry taken away. -/
theorem he_delete (l : List (Int × Int)) (n i : Nat) (hn : l.length = n) (hn6 : n ≤ 100000) (hi : i < n) (jv : Int) (hj : jv = (i : Int) + 1) (g c : Nat) (w : World) (h : Rn w g c 2 (es l) 38) :
    Calls Try.prog 57 #[.slice (some ⟨g, 0, none⟩) n c, .int .i64 i, .int .i64 jv] w fun e w' => e = .returned (.slice (some ⟨g, 0, none⟩) (n - 1) c) ∧ Rn w' g c 2 (es (l.take i ++ l.drop (i + 1))) 38 ∧ Chg [g] w w' := by
  subst hj
  have hRn := h
  obtain ⟨rest, hr1, hc6, hB⟩ := h
  rw [es_length] at hr1
  rw [hn] at hr1
  have hu := Try.underlying25
  obtain ⟨i0, hi0, hz0, hzs, hzb⟩ := info_splitE infoE
  obtain ⟨C, hC⟩ : ∃ C, es (l.drop (i + 1)) = C := ⟨_, rfl⟩
  have hCl : C.length = (n - (i + 1)) * 2 := by rw [← hC, es_length, List.length_drop, hn]
  have hC1 : ∀ v ∈ C, v.oneCell' = true := by rw [← hC]; exact es_one _
  obtain ⟨A, hA⟩ : ∃ A, es (l.take i) = A := ⟨_, rfl⟩
  have hAl : A.length = i * 2 := by rw [← hA, es_length, List.length_take]; omega
  obtain ⟨B2, hB2⟩ : ∃ B2, es (l.drop i) ++ rest = B2 := ⟨_, rfl⟩
  have hB2l : B2.length = (c - i) * 2 := by rw [← hB2, List.length_append, es_length, List.length_drop, hn]; omega
  have eL : es l ++ rest = A ++ B2 := by rw [es_cut l i, hA, List.append_assoc, hB2]
  rw [eL] at hB
  obtain ⟨A2, hA2⟩ : ∃ A2, A ++ C = A2 := ⟨_, rfl⟩
  have hA2l : A2.length = (n - 1) * 2 := by rw [← hA2, List.length_append]; omega
  obtain ⟨R2, hR2⟩ : ∃ R2, B2.drop C.length = R2 := ⟨_, rfl⟩
  have hR2l : R2.length = (c - (n - 1)) * 2 := by rw [← hR2, List.length_drop]; omega
  have hes : es (l.take i ++ l.drop (i + 1)) = A2 := by rw [es_app, hA, hC, hA2]
  rw [hes]
  obtain ⟨AD, hAD, hsrc⟩ : ∃ AD : Addr, (if c = i + 1 then some (⟨g, 0, none⟩ : Addr) else some ⟨g, (i + 1) * 2, none⟩) = some AD ∧ Hid (∀ t u, C[t]? = some u → w.drew.cell? (AD.add t) = some u) := by
    by_cases h : c = i + 1
    · refine ⟨⟨g, 0, none⟩, by simp [h], fun t u hu => ?_⟩
      have h0 : C.length = 0 := by rw [hCl]; omega
      rw [List.length_eq_zero_iff.1 h0] at hu
      simp at hu
    · refine ⟨⟨g, (i + 1) * 2, none⟩, by simp [h], fun t u hu => ?_⟩
      exact es_src hRn (i + 1) t u (by rw [hC]; exact hu) (by rw [hn]; omega)
  have W1E : Blk (w.drew.setCells g (i * 2) C) g (A2 ++ R2) 38 ∧ Chg [g] w (w.drew.setCells g (i * 2) C) := by
    have k := rw_cells C (i * 2) hB.drew (by rw [List.length_append]; omega)
    rw [lay_at A B2 C (i * 2) hAl, hA2, hR2] at k
    exact ⟨k.1, ((Chg.refl [g] w).drew).trans k.2 (fun x hx => Or.inl hx)⟩
  have hsp : Hid (∀ t, t < C.length → (w.drew.cell? ⟨g, 0 + i * 2 + t, none⟩).isSome = true ∧ w.drew.frozen? ⟨g, 0 + i * 2 + t, none⟩ = false) := fun t ht => by
    refine ⟨?_, hB.drew.free _⟩
    have hlt : 0 + i * 2 + t < (A ++ B2).length := by rw [List.length_append]; omega
    rw [hB.drew.cell (List.getElem?_eq_getElem hlt)]; rfl
  have hcl : ∀ (ty : TypeId) (W : World), Blk W g (A2 ++ R2) 38 → (Builtin.clear_ #[25] ty #[.slice (some ⟨g, (n - 1) * 2, none⟩) (n - (n - 1)) (c - (n - 1))]).run Try.prog W = .ok (.tuple #[]) (W.setCells g ((n - 1) * 2) [.int .i64 0, .int .i64 0]) := fun ty W hW => by
    have hst := run_storeCells_cells (P := Try.prog) g ((n - 1) * 2) [.int .i64 0, .int .i64 0] 0 W (fun j hj => by
      have hlt : (n - 1) * 2 + j < (A2 ++ R2).length := by simp at hj; rw [List.length_append]; omega
      rw [Nat.add_zero, hW.cell (List.getElem?_eq_getElem hlt)]; rfl) (fun j hj => hW.free _) (by intro v hv; simp at hv; subst hv; rfl)
    rw [show n - (n - 1) = 1 by omega]
    have hzv : (zeroValue 38).run Try.prog W = .ok (.agg #[.int .i64 0, .int .i64 0]) W := Try.zeroValue38 W
    have hzc : (Builtin.zeroCells (Value.cells (.agg #[.int .i64 0, .int .i64 0])) 1).toList = [.int .i64 0, .int .i64 0] := by simp [Builtin.zeroCells, Value.cells]; rfl
    simp [Builtin.clear_, run_underlying hu, hzv, hzc, hst]
  have W2E : ∀ W, Blk W g (A2 ++ R2) 38 ∧ Chg [g] w W → Rn (W.setCells g ((n - 1) * 2) [.int .i64 0, .int .i64 0]) g c 2 A2 38 ∧ Chg [g] w (W.setCells g ((n - 1) * 2) [.int .i64 0, .int .i64 0]) := fun W hW => by
    have k := rw_cells [.int .i64 0, .int .i64 0] ((n - 1) * 2) hW.1 (by rw [List.length_append]; simp; omega)
    rw [lay_at A2 R2 [.int .i64 0, .int .i64 0] ((n - 1) * 2) hA2l, List.append_assoc] at k
    exact ⟨⟨_, by rw [List.length_append, List.length_drop]; simp; omega, hc6, k.1⟩, hW.2.trans k.2 (fun x hx => Or.inl hx)⟩
  have HF := Lib.hid (And.intro W1E (And.intro hcl W2E))
  have s1 : Hid (C.length = (n - (i + 1)) * 2) := hCl
  have s2 : Hid (∀ u ∈ C, u.oneCell' = true) := hC1
  have HI := Lib.hid (And.intro hi0 hzs)
  have hnc : n ≤ c := by omega
  clear W1E hcl W2E hR2l hR2 hA2l hA2 hes eL hB2l hB2 hAl hA hC1 hCl hC hi0 hz0 hzs hzb hB hRn hr1 hn
  have hw1 : IntKind.i64.wrap ((i : Int) + 1) = (i : Int) + 1 := IntWalk.i64_in _ (by omega)
  have h0 : (0 : Int) ≤ (i : Int) := by omega
  have hb1 : (0 : Int) ≤ (i : Int) + 1 := by omega
  have hb2 : (i : Int) + 1 ≤ (n : Int) := by omega
  have hb3 : (i : Int) + 1 ≤ (c : Int) := by omega
  have htn : ((i : Int) + 1).toNat = i + 1 := by omega
  have hb4 : ¬ ((i : Int) = (i : Int) + 1) := by omega
  have hb5 : (i : Int) ≤ (i : Int) + 1 := by omega
  have hb6 : ((i : Int) == (i : Int) + 1) = false := by rw [beq_eq_false_iff_ne]; omega
  have hb7 : i ≤ c := by omega
  have hb8 : ¬ (c = n - 1) := by omega
  have hb9 : i + (n - (i + 1)) = n - 1 := by omega
  have hb10 : (n : Int) - 1 ≤ (n : Int) := by omega
  go_enter Try.func57, Try.ntmps57
  go_wp2_with fail
  go_region_law (refine step_append_room rfl (.tmp 22) (.tmp 25) 25 rfl 38 i0 2 hu HI.out.1 HI.out.2 g 0 i c (by simp [Act.eval, Act.put]) AD (n - (i + 1)) (c - (i + 1)) C (by simp [Act.eval, Act.put, hAD]) s1.out hsrc.out s2.out (by omega) hsp.out ?_)
  have HV := Lib.hid HF.out.1
  revert HV
  generalize w.drew.setCells g (i * 2) C = W1
  intro HV
  have hcl := fun ty => HF.out.2.1 ty W1 HV.out.1
  go_wp2
  go_ret
  exact ⟨rfl, HF.out.2.2 W1 HV.out⟩
end Go.Proofs.Ytbdjcppkfihonaa
