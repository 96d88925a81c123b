/- Heap: the place of an entry. -/
import Derived.Test.YtbdjcppkfihonaaHe2
import Derived.Test.YtbdjcppkfihonaaClass
import Derived.WalkKit
import Derived.ProofKit
import Derived.Handy
import Derived.WalkLawsBesides
import Derived.WalkSpells
import Derived.Lib.Hide
import Derived.RegionTactic
import Derived.ChangeAlike
import Derived.WalkSmall
import Derived.Deep.QuietTactic
import Derived.BigQuiet
import Derived.OwnWalk
import Derived.Outline
import Derived.Deep.CutRange
import Derived.Deep.CutBlock
import Derived.LoopTactic
namespace Go.Proofs.Ytbdjcppkfihonaa
open Go.ChangeShapes Go.WideShapes Go.ChangeAt Go.RowKit
set_option linter.unusedSimpArgs false
set_option linter.unusedVariables false

/-- Entries that stand at the head of a block, if there are any. -/
def ER (w : World) (r : Option Addr) (l : List (Int × Int)) : Prop := l = [] ∨ ∃ g, r = some ⟨g, 0, none⟩ ∧ g < w.heap.size ∧ ∀ (j : Nat) (a b : Int), l[j]? = some (a, b) → w.cell? ⟨g, j * 2, none⟩ = some (.int .i64 a) ∧ w.cell? ⟨g, j * 2 + 1, none⟩ = some (.int .i64 b)
theorem ER.below {w w' : World} {r : Option Addr} {l : List (Int × Int)} (h : ER w r l) (k : Below w.heap.size w w') : ER w' r l := by
  rcases h with h | ⟨g, h1, h2, h3⟩
  · exact Or.inl h
  · refine Or.inr ⟨g, h1, Nat.lt_of_lt_of_le h2 k.size, fun j a b hj => ?_⟩
    obtain ⟨c0, c1⟩ := h3 j a b hj
    exact ⟨(k.cell (p := ⟨g, j * 2, none⟩) h2).trans c0, (k.cell (p := ⟨g, j * 2 + 1, none⟩) h2).trans c1⟩
theorem ER.row {w : World} {r : Option Addr} {l : List (Int × Int)} (h : ER w r l) {j : Nat} {x : Int × Int} (hj : l[j]? = some x) : ∃ g, r = some ⟨g, 0, none⟩ ∧ g < w.heap.size := by
  rcases h with h | ⟨g, h1, h2, h3⟩
  · subst h; simp at hj
  · exact ⟨g, h1, h2⟩
theorem ER.cells {w : World} {g : Nat} {l : List (Int × Int)} (h : ER w (some ⟨g, 0, none⟩) l) {j : Nat} {a b : Int} (hj : l[j]? = some (a, b)) : w.cell? ⟨g, j * 2, none⟩ = some (.int .i64 a) ∧ w.cell? ⟨g, j * 2 + 1, none⟩ = some (.int .i64 b) := by
  rcases h with h | ⟨g2, h1, h2, h3⟩
  · subst h; simp at hj
  · injection h1 with h1; injection h1 with h1; subst h1
    exact h3 j a b hj
/-- The place p parts the entries: those ahead of it, and no other ones, are earlier than t. -/
def He.parts (l : List (Int × Int)) (t : Int × Int) (p : Nat) : Prop := p ≤ l.length ∧ ∀ (j : Nat) (x : Int × Int), l[j]? = some x → (He.cmp x t < 0 ↔ j < p)
theorem cmp_zero (a b : Int × Int) (h : He.cmp a b = 0) : a = b := by
  unfold He.cmp Lib.compareInt at h
  obtain ⟨a1, a2⟩ := a
  obtain ⟨b1, b2⟩ := b
  dsimp only at h
  by_cases h1 : a1 < b1
  · rw [if_pos h1] at h; simp at h
  · by_cases h2 : a1 > b1
    · rw [if_neg h1, if_pos h2] at h; simp at h
    · rw [if_neg h1, if_neg h2, if_pos rfl] at h
      by_cases h3 : a2 < b2
      · rw [if_pos h3] at h; simp at h
      · by_cases h4 : a2 > b2
        · rw [if_neg h3, if_pos h4] at h; simp at h
        · have e1 : a1 = b1 := by omega
          have e2 : a2 = b2 := by omega
          rw [e1, e2]
theorem cmp_self (a : Int × Int) : He.cmp a a = 0 := by
  unfold He.cmp Lib.compareInt
  simp
theorem nat_u64h (n : Nat) (h : n < 256 ^ 8) : IntKind.u64.wrap (n : Int) = n := by
  show ((n : Int)) % _ = _
  exact Int.emod_eq_of_lt (by omega) (by have : (256 : Nat) ^ 8 = 18446744073709551616 := by decide
                                         rw [this] at h; show (n : Int) < 18446744073709551616; omega)
set_option maxRecDepth 20000 in
set_option maxHeartbeats 8000000 in
theorem he_search (l : List (Int × Int)) (n : Nat) (hn : l.length = n) (hn1 : n ≤ 100000) (t1 t2 : Int) (p : Nat) (hp : He.parts l (t1, t2) p) (found : Bool) (hf : found = true ↔ l[p]? = some (t1, t2)) (r0 : Option Addr) (c : Nat) (fv : Value) (hfv : fv = .func (.func 55) #[] #[]) (w : World) (h : ER w r0 l) : Calls Try.prog 54 #[.slice r0 n c, .agg #[.int .i64 t1, .int .i64 t2], fv] w fun e w' => e = .returned (.tuple #[.int .i64 p, .bool found]) ∧ Below w.heap.size w w' := by
  have HP := Lib.hid (And.intro hn (And.intro hp hf))
  have HA := Lib.hid h
  have hpn : p ≤ n := by have := hp.1; omega
  subst hfv
  clear hn hp hf h
  go_enter Try.func54, Try.ntmps54
  go_upto_region 1 with fail
  have HB : Hid (ER (w.alloc (.cells #[.int .i64 t1, .int .i64 t2] 38)) r0 l ∧ Blk (w.alloc (.cells #[.int .i64 t1, .int .i64 t2] 38)) w.heap.size [.int .i64 t1, .int .i64 t2] 38 ∧ Below w.heap.size w (w.alloc (.cells #[.int .i64 t1, .int .i64 t2] 38))) := Lib.hid ⟨HA.out.below ((Below.refl _ _).alloc (Nat.le_refl _) _), Blk.newA w #[.int .i64 t1, .int .i64 t2] 38, (Below.refl _ _).alloc (Nat.le_refl _) _⟩
  revert HB
  generalize (w.alloc (.cells #[.int .i64 t1, .int .i64 t2] 38)) = W
  intro HB
  clear HA
  go_wp2_with fail
  go_loopw [9, 10, 11] (fun iv jv _ wr => ∃ i j : Nat, iv = .int .i64 i ∧ jv = .int .i64 j ∧ i ≤ p ∧ p ≤ j ∧ j ≤ n ∧ Hid (ER wr r0 l ∧ Blk wr w.heap.size [.int .i64 t1, .int .i64 t2] 38 ∧ Below w.heap.size w wr)) (fun iv jv _ _ => (intOf jv).toNat - (intOf iv).toNat)
  case atStart => exact ⟨0, n, rfl, rfl, by omega, by omega, by omega, HB⟩
  case round =>
    clear HB
    obtain ⟨i, j, rfl, rfl, hi, hj, hjn, HB⟩ := hrel
    have i0 : (0 : Int) ≤ (i : Int) := by omega
    have j0 : (0 : Int) ≤ (j : Int) := by omega
    by_cases hij : i < j
    · have ijI : (i : Int) < (j : Int) := by omega
      obtain ⟨m, hm⟩ : ∃ m, (i + j) / 2 = m := ⟨_, rfl⟩
      have hmi : i ≤ m := by omega
      have hmj : m < j := by omega
      have mI : (m : Int) < (n : Int) := by omega
      have mN : m < n := by omega
      have m0 : (0 : Int) ≤ (m : Int) := by omega
      have w1 : IntKind.i64.wrap ((i : Int) + (j : Int)) = (i : Int) + (j : Int) := IntWalk.i64_in _ (by omega)
      have w2 : IntKind.u64.wrap ((i : Int) + (j : Int)) = (i : Int) + (j : Int) := by have h := nat_u64h (i + j) (by omega); rw [← Int.natCast_add]; exact h
      have w3 : ((i : Int) + (j : Int)) / 2 = (m : Int) := by omega
      have w4 : IntKind.u64.wrap (m : Int) = (m : Int) := nat_u64h m (by omega)
      have w5 : IntKind.i64.wrap (m : Int) = (m : Int) := IntWalk.i64_in _ (by omega)
      have w6 : IntKind.i64.wrap ((m : Int) + 1) = (m : Int) + 1 := IntWalk.i64_in _ (by omega)
      obtain ⟨⟨x1, x2⟩, hx⟩ : ∃ x, l[m]? = some x := ⟨_, List.getElem?_eq_getElem (by rw [HP.out.1]; exact mN)⟩
      obtain ⟨g, rfl, _⟩ := HB.out.1.row hx
      obtain ⟨r, hr⟩ : ∃ r, He.cmp (x1, x2) (t1, t2) = r := ⟨_, rfl⟩
      have HX : Hid (l[m]? = some (x1, x2) ∧ He.cmp (x1, x2) (t1, t2) = r) := Lib.hid ⟨hx, hr⟩
      have HM := Lib.hid hm
      have hlt := HP.out.2.1.2 m _ hx
      rw [hr] at hlt
      clear hx hr hm
      by_cases hr0 : r < 0
      · have hmp := hlt.1 hr0
        clear hlt
        go_wp2_with fail
        refine wp_region_class (fun w' => ER w' (some ⟨g, 0, none⟩) l ∧ Blk w' w.heap.size [.int .i64 t1, .int .i64 t2] 38 ∧ Below w.heap.size w w') (by kernel_rfl) (by kernel_rfl) ⟨HB.out.1, HB.out.2.1, HB.out.2.2.drew⟩ ?_
        repeat (first
            | go_big_quiet_skip
            | (go_big_quiet_want
               unfold Oper.quiet
               apply Exists.intro
               refine ⟨fun wq hwq => ?_, ?_⟩
               · (obtain ⟨hq1, hq2, hq3⟩ := hwq
                  obtain ⟨d1, d2⟩ := hq1.cells HX.out.1
                  have e1 := hq2.cell (i := 0) rfl
                  have e2 := hq2.cell (i := 1) rfl
                  unfold Oper.quietAt
                  go_simp
                  first
                    | exact ⟨rfl, hq1, hq2, hq3⟩
                    | exact rfl
                    | (go_at_call 55; refine (he_earlier x1 x2 t1 t2 r HX.out.2 _).mono ?_; rintro e w3 ⟨he, hb⟩; exact ⟨he, hq1.below hb, Blk.chg hq2 (Chg.of_fresh (l := []) hb) (by simp), hq3.trans (hb.mono hq3.size)⟩))
               simp only [Act.put, List.setIfInBounds_toArray, List.set_cons_zero, List.set_cons_succ]
               go_big_quiet_on))
        refine wpQuiet_nil ?_
        intro w4 hw4
        have HB4 := Lib.hid hw4
        clear hw4 HB
        go_wp2
        refine ⟨?_, ?measure⟩
        case measure => simp [intOf]; omega
        first
          | exact ⟨m + 1, j, by go_num, by go_num, by omega, by omega, by omega, HB4⟩
          | ((repeat apply Exists.intro); exact ⟨⟨m + 1, j, by go_num, by go_num, by omega, by omega, by omega, HB4⟩, rfl⟩)
      · have hmp : p ≤ m := by
          rcases Nat.lt_or_ge m p with h | h
          · exact absurd (hlt.2 h) hr0
          · exact h
        clear hlt
        go_wp2_with fail
        refine wp_region_class (fun w' => ER w' (some ⟨g, 0, none⟩) l ∧ Blk w' w.heap.size [.int .i64 t1, .int .i64 t2] 38 ∧ Below w.heap.size w w') (by kernel_rfl) (by kernel_rfl) ⟨HB.out.1, HB.out.2.1, HB.out.2.2.drew⟩ ?_
        repeat (first
            | go_big_quiet_skip
            | (go_big_quiet_want
               unfold Oper.quiet
               apply Exists.intro
               refine ⟨fun wq hwq => ?_, ?_⟩
               · (obtain ⟨hq1, hq2, hq3⟩ := hwq
                  obtain ⟨d1, d2⟩ := hq1.cells HX.out.1
                  have e1 := hq2.cell (i := 0) rfl
                  have e2 := hq2.cell (i := 1) rfl
                  unfold Oper.quietAt
                  go_simp
                  first
                    | exact ⟨rfl, hq1, hq2, hq3⟩
                    | exact rfl
                    | (go_at_call 55; refine (he_earlier x1 x2 t1 t2 r HX.out.2 _).mono ?_; rintro e w3 ⟨he, hb⟩; exact ⟨he, hq1.below hb, Blk.chg hq2 (Chg.of_fresh (l := []) hb) (by simp), hq3.trans (hb.mono hq3.size)⟩))
               simp only [Act.put, List.setIfInBounds_toArray, List.set_cons_zero, List.set_cons_succ]
               go_big_quiet_on))
        refine wpQuiet_nil ?_
        intro w4 hw4
        have HB4 := Lib.hid hw4
        clear hw4 HB
        go_wp2
        refine ⟨?_, ?measure⟩
        case measure => simp [intOf]; omega
        first
          | exact ⟨i, m, by go_num, by go_num, by omega, by omega, by omega, HB4⟩
          | ((repeat apply Exists.intro); exact ⟨⟨i, m, by go_num, by go_num, by omega, by omega, by omega, HB4⟩, rfl⟩)
    · have ijI : ¬ (i : Int) < (j : Int) := by omega
      have HI : Hid (i = p) := Lib.hid (by omega)
      by_cases hin : i < n
      · have iN : (i : Int) < (n : Int) := by omega
        obtain ⟨⟨x1, x2⟩, hx⟩ : ∃ x, l[i]? = some x := ⟨_, List.getElem?_eq_getElem (by rw [HP.out.1]; exact hin)⟩
        obtain ⟨g, rfl, _⟩ := HB.out.1.row hx
        obtain ⟨r, hr⟩ : ∃ r, He.cmp (x1, x2) (t1, t2) = r := ⟨_, rfl⟩
        have HX : Hid (l[i]? = some (x1, x2) ∧ He.cmp (x1, x2) (t1, t2) = r) := Lib.hid ⟨hx, hr⟩
        clear hx hr
        by_cases hr0 : r = 0
        · have HF : Hid (found = true) := Lib.hid (HP.out.2.2.2 (by
            rw [← HI.out, HX.out.1]
            have h := HX.out.2
            rw [hr0] at h
            rw [cmp_zero _ _ h]))
          have hr1 : (r == 0) = true := by rw [beq_iff_eq]; exact hr0
          have HR := Lib.hid hr0
          clear hr0
          go_wp2_with fail
          refine wp_region_class (fun w' => ER w' (some ⟨g, 0, none⟩) l ∧ Blk w' w.heap.size [.int .i64 t1, .int .i64 t2] 38 ∧ Below w.heap.size w w') (by kernel_rfl) (by kernel_rfl) ⟨HB.out.1, HB.out.2.1, HB.out.2.2.drew⟩ ?_
          repeat (first
              | go_big_quiet_skip
              | (go_big_quiet_want
                 unfold Oper.quiet
                 apply Exists.intro
                 refine ⟨fun wq hwq => ?_, ?_⟩
                 · (obtain ⟨hq1, hq2, hq3⟩ := hwq
                    obtain ⟨d1, d2⟩ := hq1.cells HX.out.1
                    have e1 := hq2.cell (i := 0) rfl
                    have e2 := hq2.cell (i := 1) rfl
                    unfold Oper.quietAt
                    go_simp
                    first
                      | exact ⟨rfl, hq1, hq2, hq3⟩
                      | exact rfl
                      | (go_at_call 55; refine (he_earlier x1 x2 t1 t2 r HX.out.2 _).mono ?_; rintro e w3 ⟨he, hb⟩; exact ⟨he, hq1.below hb, Blk.chg hq2 (Chg.of_fresh (l := []) hb) (by simp), hq3.trans (hb.mono hq3.size)⟩))
                 simp only [Act.put, List.setIfInBounds_toArray, List.set_cons_zero, List.set_cons_succ]
                 go_big_quiet_on))
          refine wpQuiet_nil ?_
          intro w4 hw4
          have HB4 := Lib.hid hw4
          clear hw4 HB
          go_wp2
          go_ret2
          exact ⟨by rw [HI.out, HF.out]; rfl, HB4.out.2.2⟩
        · have HF : Hid (found = false) := Lib.hid (by
            cases hfd : found with
            | false => rfl
            | true =>
              exfalso
              have h := HP.out.2.2.1 hfd
              rw [← HI.out, HX.out.1] at h
              injection h with h
              have h2 := HX.out.2
              rw [h] at h2
              exact hr0 (by rw [← h2]; exact cmp_self _))
          have hr1 : (r == 0) = false := by rw [beq_eq_false_iff_ne]; exact hr0
          go_wp2_with fail
          refine wp_region_class (fun w' => ER w' (some ⟨g, 0, none⟩) l ∧ Blk w' w.heap.size [.int .i64 t1, .int .i64 t2] 38 ∧ Below w.heap.size w w') (by kernel_rfl) (by kernel_rfl) ⟨HB.out.1, HB.out.2.1, HB.out.2.2.drew⟩ ?_
          repeat (first
              | go_big_quiet_skip
              | (go_big_quiet_want
                 unfold Oper.quiet
                 apply Exists.intro
                 refine ⟨fun wq hwq => ?_, ?_⟩
                 · (obtain ⟨hq1, hq2, hq3⟩ := hwq
                    obtain ⟨d1, d2⟩ := hq1.cells HX.out.1
                    have e1 := hq2.cell (i := 0) rfl
                    have e2 := hq2.cell (i := 1) rfl
                    unfold Oper.quietAt
                    go_simp
                    first
                      | exact ⟨rfl, hq1, hq2, hq3⟩
                      | exact rfl
                      | (go_at_call 55; refine (he_earlier x1 x2 t1 t2 r HX.out.2 _).mono ?_; rintro e w3 ⟨he, hb⟩; exact ⟨he, hq1.below hb, Blk.chg hq2 (Chg.of_fresh (l := []) hb) (by simp), hq3.trans (hb.mono hq3.size)⟩))
                 simp only [Act.put, List.setIfInBounds_toArray, List.set_cons_zero, List.set_cons_succ]
                 go_big_quiet_on))
          refine wpQuiet_nil ?_
          intro w4 hw4
          have HB4 := Lib.hid hw4
          clear hw4 HB
          go_wp2
          go_ret2
          exact ⟨by rw [HI.out, HF.out]; rfl, HB4.out.2.2⟩
      · have iN : ¬ (i : Int) < (n : Int) := by omega
        have HF : Hid (found = false) := Lib.hid (by
          cases hfd : found with
          | false => rfl
          | true =>
            exfalso
            have h := HP.out.2.2.1 hfd
            rw [List.getElem?_eq_none (by rw [HP.out.1, ← HI.out]; omega)] at h
            cases h)
        go_wp2_with fail
        refine wp_region_class (fun w' => ER w' r0 l ∧ Blk w' w.heap.size [.int .i64 t1, .int .i64 t2] 38 ∧ Below w.heap.size w w') (by kernel_rfl) (by kernel_rfl) ⟨HB.out.1, HB.out.2.1, HB.out.2.2.drew⟩ ?_
        repeat (first
            | go_big_quiet_skip
            | (go_big_quiet_want
               unfold Oper.quiet
               apply Exists.intro
               refine ⟨fun wq hwq => ?_, ?_⟩
               · (obtain ⟨hq1, hq2, hq3⟩ := hwq
                  have e1 := hq2.cell (i := 0) rfl
                  have e2 := hq2.cell (i := 1) rfl
                  unfold Oper.quietAt
                  go_simp
                  first
                    | exact ⟨rfl, hq1, hq2, hq3⟩
                    | exact rfl)
               simp only [Act.put, List.setIfInBounds_toArray, List.set_cons_zero, List.set_cons_succ]
               go_big_quiet_on))
        refine wpQuiet_nil ?_
        intro w4 hw4
        have HB4 := Lib.hid hw4
        clear hw4 HB
        go_wp2
        go_ret2
        exact ⟨by rw [HI.out, HF.out]; rfl, HB4.out.2.2⟩
end Go.Proofs.Ytbdjcppkfihonaa
