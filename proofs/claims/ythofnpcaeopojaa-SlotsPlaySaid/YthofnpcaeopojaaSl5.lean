/- Contracts of slots (package slots): Live. -/
import Derived.Test.YthofnpcaeopojaaSl4
import Derived.Test.YthofnpcaeopojaaIter
import Derived.Maps.Own
namespace Go.Proofs.Ythofnpcaeopojaa
open Go.ChangeShapes Go.WideShapes Go.ChangeAt Go.RowKit Go.Maps Go.Sort Go.Shelf
set_option linter.unusedSimpArgs false
set_option linter.unusedVariables false

theorem sorts_any (m : Nat) : AnyZI.SortsIn Try.prog Try.sortedA_ren Fence.wide m :=
  ⟨fun blk off cap ss W hH hblk hsz => callsIn_wide.2 (AnyM.slices_Sort_int Try.sortA blk off cap ss W hH hblk hsz),
   fun p cap W => callsIn_wide.2 (AnyM.slices_Sort_int_none Try.sortA p cap W)⟩
/-- Numbers that rise are what they are sorted. -/
theorem sorted_eq {l m : List Int} (hm : m.Pairwise (· < ·)) (hp : l.Perm m) : l.mergeSort (fun x y => decide (x ≤ y)) = m := by
  refine List.Perm.eq_of_pairwise (le := fun a b => decide (a ≤ b) = true) (fun a b _ _ h1 h2 => by simp only [decide_eq_true_eq] at h1 h2; omega) ?_ ?_ ((List.mergeSort_perm _ _).trans hp)
  · exact List.pairwise_mergeSort (fun a b c h1 h2 => by simp only [decide_eq_true_eq] at *; omega) (fun a b => by simp only [Bool.or_eq_true, decide_eq_true_eq]; omega) l
  · exact hm.imp (fun h => by simp only [decide_eq_true_eq]; omega)
/-- What is asked of a map's entries. -/
def MOk (M : List (Int × Int × Nat)) (c : Nat) : Prop := (M.map (·.1)).Pairwise (· < ·) ∧ (M.map (·.2.2)).Pairwise (· < ·) ∧ (∀ x ∈ M, x.2.2 < c ∧ 0 ≤ x.1 ∧ x.1 ≤ 4096) ∧ M.length ≤ 1024
def RD (v : Value) : Option (DataW Unit × List MemPlace) := some (.lit (.bool false), [])
theorem owns_of {w : World} {b : Nat} {M : List (Int × Int × Nat)} {c : Nat} (h : MpB w b M c) (hm : MOk M c) :
    ∃ D : DataW Unit, w.ownsMap Try.prog 3 RD b M.length D ∧ (intKeys D).Perm (M.map (·.1)) ∧ Maps.size D = M.length := by
  obtain ⟨h1, h2, h3, h4⟩ := hm
  have hkey : ∀ x ∈ M, WideElems.rd Try.prog 3 RD (ent x) = some (.int .i64 x.1, .lit (.bool false)) := fun x hx => by
    unfold WideElems.rd
    have hw : (Lit.int .i64 x.1).wf = true := WalkArith.wf_i64 (by have := h3 x hx; omega)
    rw [show (ent x).key = .int .i64 x.1 from rfl, Maps.keyOf_int_mk Try.underlying3 hw]
    rfl
  have hrg : (M.map ent).map (WideElems.rg Try.prog 3 RD) = M.map fun x => (Lit.int .i64 x.1, (DataW.lit (.bool false) : DataW Unit)) := by
    rw [List.map_map]
    apply List.map_congr_left
    intro x hx
    simp only [Function.comp, WideElems.rg, hkey x hx, Option.getD_some]
  refine ⟨_, ⟨_, c, h, ⟨by simp; unfold maxLen; omega, ⟨?_, ?_, ?_⟩, ?_⟩, by simp, rfl⟩, ?_, ?_⟩
  · intro x hx
    rw [List.toList_toArray] at hx
    obtain ⟨y, hy, rfl⟩ := List.mem_map.1 hx
    exact (h3 y hy).1
  · rw [List.toList_toArray, List.map_map]
    exact (h2.imp (fun h => Nat.ne_of_lt h))
  · rw [List.toList_toArray, List.map_map]
    have : M.map ((·.key) ∘ ent) = (M.map (·.1)).map (Value.int .i64) := by rw [List.map_map]; rfl
    rw [this]
    unfold List.Nodup
    rw [List.pairwise_map]
    exact h1.imp (fun h e => by injection e with _ e; omega)
  · intro x hx
    rw [List.toList_toArray] at hx
    obtain ⟨y, hy, rfl⟩ := List.mem_map.1 hx
    exact ⟨_, hkey y hy⟩
  · rw [List.toList_toArray, hrg]
    simp only [intKeys]
    refine ((sorted_perm _).map _).trans ?_
    rw [List.map_map]
    exact List.Perm.refl _
  · simp [Maps.size, length_sorted]
set_option maxHeartbeats 1000000 in
theorem sl_live (s g m n : Nat) (W : List Int) (M : List (Int × Int × Nat)) (c : Nat) (nx : Int) (w : World) (h : SA w s g m n W M c nx) (hm : MOk M c) :
    Calls Try.prog 19 #[.pointer (some ⟨s, 0, none⟩)] w fun e w' => ∃ v, e = .returned v ∧ w'.ownsRow w.heap.size 3 1 v M.length (M.map fun x => iw x.1) ∧ Below w.heap.size w w' := by
  obtain ⟨D, hown, hperm, hsize⟩ := owns_of h.2.2.1 hm
  have hbl := hown.lt
  have hlen := hm.2.2.2
  have c0 := h.1.cell (i := 0) rfl
  have hseq : SeqGives Fence.wide 2 Try.prog 31 #[.pointer (some ⟨w.heap.size, 0, none⟩)] encZ (fun ss => ss.Perm (intKeys D)) (Maps.size D) (w.alloc (.cells #[.map (some m)] 51)) :=
    AnyZI.keys_gives (ρ := Try.keysA_ren) { Try.keysA with } Fence.wide _ trivial rfl (by omega) w.heap.size m M.length D _ (by simp) (by simp) (by
      obtain ⟨es, clock, hb, Ft, hs, hD⟩ := hown
      exact ⟨es, clock, (Below.heap_alloc _ _ m hbl).trans hb, Ft, hs, hD⟩)
  have cK : ∀ mb W, Calls Try.prog 27 #[.map mb] W fun e w' => e = .returned (.func (.func 31) #[] #[.pointer (some ⟨W.heap.size, 0, none⟩)]) ∧ w' = W.alloc (.cells #[.map mb] 51) := fun mb W => callsIn_wide.1 (AnyZI.keys_in Try.keysA Fence.wide 5 trivial rfl mb W)
  have cS := callsIn_wide.1 (AnyZI.sorted_in Try.sortedA Fence.wide 5 trivial trivial trivial trivial rfl (by omega) (sorts_any _) (enters_of Try.func30 (by kernel_rfl) rfl) 31 #[.pointer (some ⟨w.heap.size, 0, none⟩)] trivial (enters_of Try.func31 (by kernel_rfl) rfl) _ _ (by rw [hsize]; unfold maxLen; omega) (by rw [hsize]; omega) _ hseq)
  change Calls Try.prog 26 _ _ _ at cS
  have HP : Hid (∀ ss : List Int, ss.Perm (intKeys D) → (ss.mergeSort (fun x y => decide (x ≤ y))).map encZ = M.map (fun x => iw x.1) ∧ ss.length = M.length) := Lib.hid fun ss hs => by
    have hp := hs.trans hperm
    rw [sorted_eq hm.1 hp, List.map_map]
    exact ⟨rfl, by rw [hp.length_eq]; simp⟩
  have HK := Lib.hid cK
  have HS := Lib.hid cS
  clear hseq cK cS hperm hown h hm
  go_enter Try.func19, Try.ntmps19
  go_wp2_with (first
    | (go_at_call 27; refine (HK.out _ _).mono ?_; rintro e w' ⟨rfl, rfl⟩)
    | (go_at_call 26; refine HS.out.mono ?_; rintro e w1 ⟨v, ss, rfl, hS, hrow, hnil, hb⟩; have HR := Lib.hid (And.intro hS (And.intro hrow hb)); clear hS hrow hnil hb))
  go_ret
  obtain ⟨hS, hrow, hb⟩ := HR.out
  obtain ⟨e1, e2⟩ := HP.out ss hS
  rw [e1, e2] at hrow
  exact ⟨v, rfl, ownsRow_base_a hrow (by simp), ((Below.refl _ w).alloc (Nat.le_refl _) _).trans (hb.mono (by simp))⟩
end Go.Proofs.Ythofnpcaeopojaa
