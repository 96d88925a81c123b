/- Several texts in one. -/
import Derived.Test.YtdchedkhlfmpeaaGr9
import Derived.Test.YtdchedkhlfmpeaaGr6
import Derived.WalkKit
import Derived.ProofKit
import Derived.Handy
import Derived.WalkLawsBesides
import Derived.WalkSpells
import Derived.Lib.Hide
import Derived.Lib.SliceRun
import Derived.Deep.RegionLaw
import Derived.RegionTactic
import Derived.ChangeAlike
import Derived.WalkSmall
import Derived.Deep.QuietTactic
import Derived.BigQuiet
import Derived.OwnWalk
import Derived.Outline
import Derived.Deep.CutRange
import Derived.Deep.CutBlock
import Derived.LoopTactic
import Derived.Test.YtdchedkhlfmpeaaGrB
import Derived.Test.YtdchedkhlfmpeaaEv16
/- Grace: the lives of four events. -/
namespace Go.Proofs.Ytdchedkhlfmpeaa
open Go.ChangeShapes Go.WideShapes Go.ChangeAt Go.RowKit
set_option linter.unusedSimpArgs false
set_option linter.unusedVariables false

/-- The lives' four events: a round, an opening, a drain, a round. -/
def Gr.lv (z : ByteArray) : List Ev := [⟨1, 0, 0, 8, z, 0, 0, 0, 0, 0, 0, 0⟩, ⟨2, 0, 0, 0, z, 0, 0, 0, 0, 0, 0, 0⟩, ⟨7, 0, 0, 10, z, 0, 0, 0, 0, 0, 0, 0⟩, ⟨1, 0, 0, 13, z, 0, 0, 0, 0, 0, 0, 0⟩]
theorem Gr.lv_len (z : ByteArray) : (Gr.lv z).length = 4 := rfl
theorem Gr.lv_fst (z : ByteArray) : Gr.fst 7 (Gr.lv z) = 2 := rfl
theorem Gr.lv_beg (z : ByteArray) : Gr.beg (Gr.lv z) = (10, true) := by unfold Gr.beg; rw [Gr.lv_fst]; rfl
theorem Gr.lv_clock (z : ByteArray) : Ev.clock (Gr.lv z) = 13 := rfl
theorem Gr.lv_good : Co.goodB 2 4 4 4 9 1 = true := by decide
theorem Gr.lv_until1 : Co.untl 2 4 4 4 9 1 10 1 = 13 := by decide
theorem Gr.lv_until2 : Co.untl 2 4 4 4 9 1 10 2 = 16 := by decide
/-- Every one of them. -/
theorem Gr.lv_all (z : ByteArray) {p : Nat} {x : Ev} (h : (Gr.lv z)[p]? = some x) : (p = 0 ∧ x.k = 1) ∨ (p = 1 ∧ x.k = 2) ∨ (p = 2 ∧ x.k = 7) ∨ (p = 3 ∧ x.k = 1) := by
  match p, h with
  | 0, h => injection h with h; subst h; exact Or.inl ⟨rfl, rfl⟩
  | 1, h => injection h with h; subst h; exact Or.inr (Or.inl ⟨rfl, rfl⟩)
  | 2, h => injection h with h; subst h; exact Or.inr (Or.inr (Or.inl ⟨rfl, rfl⟩))
  | 3, h => injection h with h; subst h; exact Or.inr (Or.inr (Or.inr ⟨rfl, rfl⟩))
  | n + 4, h => simp [Gr.lv] at h
theorem Gr.lv_wide (z : ByteArray) : ¬ Gr.wide (Gr.lv z) 4 := by
  rintro ⟨q, y, hq, hy, h⟩
  have a := Gr.lv_all z hy
  rcases h with ⟨⟨p, x, h1, h2, h3⟩, h4⟩ | ⟨⟨p, x, h1, h2, h3⟩, _⟩
  · have b := Gr.lv_all z h2
    omega
  · have b := Gr.lv_all z h2
    omega
theorem Gr.lv_stp (z : ByteArray) (b : Int) : ¬ Gr.stp (Gr.lv z) b 4 := by
  rintro ⟨q, y, hq, hy, h, _⟩
  have a := Gr.lv_all z hy
  omega
set_option maxRecDepth 20000 in
set_option maxHeartbeats 16000000 in
theorem gr_lv1 (a : Option Addr) (cap : Nat) (z : ByteArray) (w : World) (HE : EL w a (Gr.lv z)) :
    Calls Try.prog 21 #[.agg #[.int .i64 2, .int .i64 4, .int .i64 4, .int .i64 4, .int .i64 9, .int .i64 1], .slice a 4 cap, .int .i64 1] w fun e w' => e = .returned (.tuple #[.int .i64 13, .bool true]) ∧ Below w.heap.size w w' :=
  gr_bound 2 4 4 4 9 1 1 (by omega) a 4 cap (Gr.lv z) rfl (by omega) 10 (by omega) true (Gr.lv_beg z) 13 Gr.lv_until1 13 (Gr.lv_clock z) 13 true (if_pos ⟨rfl, Gr.lv_good, by omega, by omega, by omega⟩) w HE
set_option maxRecDepth 20000 in
set_option maxHeartbeats 16000000 in
theorem gr_lv2 (a : Option Addr) (cap : Nat) (z : ByteArray) (w : World) (HE : EL w a (Gr.lv z)) :
    Calls Try.prog 21 #[.agg #[.int .i64 2, .int .i64 4, .int .i64 4, .int .i64 4, .int .i64 9, .int .i64 1], .slice a 4 cap, .int .i64 2] w fun e w' => e = .returned (.tuple #[.int .i64 0, .bool false]) ∧ Below w.heap.size w w' :=
  gr_bound 2 4 4 4 9 1 2 (by omega) a 4 cap (Gr.lv z) rfl (by omega) 10 (by omega) true (Gr.lv_beg z) 16 Gr.lv_until2 13 (Gr.lv_clock z) 0 false (if_neg (fun h => by have := h.2.2.2.2; omega)) w HE
set_option maxRecDepth 20000 in
set_option maxHeartbeats 16000000 in
theorem gr_lv3 (a : Option Addr) (cap : Nat) (z : ByteArray) (w : World) (HE : EL w a (Gr.lv z)) :
    Calls Try.prog 27 #[.agg #[.int .i64 2, .int .i64 4, .int .i64 4, .int .i64 4, .int .i64 9, .int .i64 1], .slice a 4 cap, .int .i64 1] w fun e w' => e = .returned (.bool false) ∧ Below w.heap.size w w' :=
  gr_stops 2 4 4 4 9 1 1 (by omega) a 4 cap (Gr.lv z) rfl (by omega) 10 (by omega) true (Gr.lv_beg z) 13 Gr.lv_until1 13 (Gr.lv_clock z) 13 true (if_pos ⟨rfl, Gr.lv_good, by omega, by omega, by omega⟩) false ⟨fun h => (by cases h), fun h => absurd (h rfl) (Gr.lv_stp z 13)⟩ w HE
set_option maxRecDepth 20000 in
set_option maxHeartbeats 16000000 in
theorem gr_lv4 (ga cap : Nat) (hlc : 4 ≤ cap) (hcm : cap ≤ 1000000) (z : ByteArray) (w : World) (HE : EL w (some ⟨ga, 0, none⟩) (Gr.lv z)) :
    Calls Try.prog 30 #[.slice (some ⟨ga, 0, none⟩) 4 cap] w fun e w' => e = .returned (.bool true) ∧ Below w.heap.size w w' :=
  gr_closed ga 4 cap (Gr.lv z) rfl (by omega) hlc (by omega) true ⟨fun _ => Gr.lv_wide z, fun _ => rfl⟩ w HE
end Go.Proofs.Ytdchedkhlfmpeaa
/- Grace: the lives. -/
namespace Go.Proofs.Ytdchedkhlfmpeaa
open Go.ChangeShapes Go.WideShapes Go.ChangeAt Go.RowKit
set_option linter.unusedSimpArgs false
set_option linter.unusedVariables false

theorem gr_usual (w : World) : Calls Try.prog 55 #[] w fun e w' => e = .returned (.agg #[.int .i64 2, .int .i64 4, .int .i64 4, .int .i64 4, .int .i64 9, .int .i64 1]) ∧ Below w.heap.size w w' := by
  have H0 : Hid (Blk (w.alloc (.cells #[.int .i64 2, .int .i64 4, .int .i64 4, .int .i64 4, .int .i64 9, .int .i64 1] 54)) w.heap.size [.int .i64 2, .int .i64 4, .int .i64 4, .int .i64 4, .int .i64 9, .int .i64 1] 54 ∧ Below w.heap.size w (w.alloc (.cells #[.int .i64 2, .int .i64 4, .int .i64 4, .int .i64 4, .int .i64 9, .int .i64 1] 54))) := Lib.hid ⟨Blk.newA _ _ _, (Below.refl _ _).alloc (Nat.le_refl _) _⟩
  go_enter Try.func55, Try.ntmps55
  go_wp2_with fail
  revert H0
  generalize (w.alloc (.cells #[.int .i64 2, .int .i64 4, .int .i64 4, .int .i64 4, .int .i64 9, .int .i64 1] 54)) = W0
  intro H0
  have r0 := H0.out.1.cell (i := 0) rfl
  have r1 := H0.out.1.cell (i := 1) rfl
  have r2 := H0.out.1.cell (i := 2) rfl
  have r3 := H0.out.1.cell (i := 3) rfl
  have r4 := H0.out.1.cell (i := 4) rfl
  have r5 := H0.out.1.cell (i := 5) rfl
  (try simp only [Exit.inBlock, Exit.then])
  exact bodyPost_ret (v := .agg #[.int .i64 2, .int .i64 4, .int .i64 4, .int .i64 4, .int .i64 9, .int .i64 1]) (by simp [results, Try.results55, go_sem, r0, r1, r2, r3, r4, r5]) rfl ⟨rfl, H0.out.2⟩
theorem gr_ust {w : World} (W : World) (h : Hid (EL W (some ⟨w.heap.size, 0, none⟩) (Gr.lv ⟨#[]⟩) ∧ Below w.heap.size w W)) : Calls Try.prog 55 #[] W fun e w' => e = .returned (.agg #[.int .i64 2, .int .i64 4, .int .i64 4, .int .i64 4, .int .i64 9, .int .i64 1]) ∧ Below W.heap.size W w' := gr_usual W
theorem kp_lv {w W W' : World} (h : Hid (EL W (some ⟨w.heap.size, 0, none⟩) (Gr.lv ⟨#[]⟩) ∧ Below w.heap.size w W)) (b : Below W.heap.size W W') : Hid (EL W' (some ⟨w.heap.size, 0, none⟩) (Gr.lv ⟨#[]⟩) ∧ Below w.heap.size w W') := Lib.hid ⟨h.out.1.below b, h.out.2.trans (b.mono h.out.2.size)⟩
theorem Gr.lv_ids : Ev.ids ((Gr.lv ⟨#[]⟩).take 2) = [0] := rfl
theorem Gr.lv_late : Gr.late 13 2 (Gr.lv ⟨#[]⟩) = [0] := by
  unfold Gr.late
  rw [Gr.lv_ids]
  rfl
theorem Gr.lv_ok : ∀ x ∈ Gr.lv ⟨#[]⟩, x.ok := by
  intro x hx
  simp only [Gr.lv, List.mem_cons, List.not_mem_nil, or_false] at hx
  have z0 : (⟨#[]⟩ : ByteArray).size ≤ maxLen := by unfold maxLen; decide
  rcases hx with rfl | rfl | rfl | rfl <;> exact ⟨z0, fun k z hz => by
    simp only [Ev.c, List.mem_cons, List.not_mem_nil, or_false, reduceCtorEq, false_or, Value.int.injEq] at hz
    rcases hz with ⟨rfl, rfl⟩ | ⟨rfl, rfl⟩ | ⟨rfl, rfl⟩ | ⟨rfl, rfl⟩ | ⟨rfl, rfl⟩ | ⟨rfl, rfl⟩ | ⟨rfl, rfl⟩ | ⟨rfl, rfl⟩ | ⟨rfl, rfl⟩ | ⟨rfl, rfl⟩ | ⟨rfl, rfl⟩ <;> decide⟩
set_option maxRecDepth 20000 in
set_option maxHeartbeats 16000000 in
theorem gr_lv5 (ga cap : Nat) (hlc : 4 ≤ cap) (hcm : cap ≤ 1000000) (w : World) (HE : EL w (some ⟨ga, 0, none⟩) (Gr.lv ⟨#[]⟩)) :
    Calls Try.prog 25 #[.agg #[.int .i64 2, .int .i64 4, .int .i64 4, .int .i64 4, .int .i64 9, .int .i64 1], .slice (some ⟨ga, 0, none⟩) 4 cap, .int .i64 1] w fun e w' => ∃ (rr : Option Addr) (cc : Nat), e = .returned (.slice rr 1 cc) ∧ RI w' rr [0] ∧ Below w.heap.size w w' :=
  gr_late 2 4 4 4 9 1 1 (some ⟨ga, 0, none⟩) 4 cap (Gr.lv ⟨#[]⟩) rfl (by omega) hlc (by omega) (by
    intro x hx
    simp only [Gr.lv, List.mem_cons, List.not_mem_nil, or_false] at hx
    rcases hx with rfl | rfl | rfl | rfl <;> decide) 13 true 2 (Gr.lv_fst _) (fun _ => by omega) (fun W h => gr_lv1 (some ⟨ga, 0, none⟩) cap ⟨#[]⟩ W h) [0] (by rw [if_pos rfl]; exact Gr.lv_late) 1 rfl w HE
set_option maxRecDepth 20000 in
set_option maxHeartbeats 16000000 in
theorem gr_lives (w : World) : Calls Try.prog 29 #[] w fun r w' => r = .returned (.bool true) ∧ Below w.heap.size w w' := by
  have H0 : Hid (EL (w.alloc (.cells #[.int .i64 1, .int .i64 0, .int .i64 0, .int .i64 8, .string ⟨#[]⟩, .int .i64 0, .int .i64 0, .int .i64 0, .int .i64 0, .int .i64 0, .int .i64 0, .int .i64 0, .int .i64 2, .int .i64 0, .int .i64 0, .int .i64 0, .string ⟨#[]⟩, .int .i64 0, .int .i64 0, .int .i64 0, .int .i64 0, .int .i64 0, .int .i64 0, .int .i64 0, .int .i64 7, .int .i64 0, .int .i64 0, .int .i64 10, .string ⟨#[]⟩, .int .i64 0, .int .i64 0, .int .i64 0, .int .i64 0, .int .i64 0, .int .i64 0, .int .i64 0, .int .i64 1, .int .i64 0, .int .i64 0, .int .i64 13, .string ⟨#[]⟩, .int .i64 0, .int .i64 0, .int .i64 0, .int .i64 0, .int .i64 0, .int .i64 0, .int .i64 0] 47)) (some ⟨w.heap.size, 0, none⟩) (Gr.lv ⟨#[]⟩) ∧ Below w.heap.size w (w.alloc (.cells #[.int .i64 1, .int .i64 0, .int .i64 0, .int .i64 8, .string ⟨#[]⟩, .int .i64 0, .int .i64 0, .int .i64 0, .int .i64 0, .int .i64 0, .int .i64 0, .int .i64 0, .int .i64 2, .int .i64 0, .int .i64 0, .int .i64 0, .string ⟨#[]⟩, .int .i64 0, .int .i64 0, .int .i64 0, .int .i64 0, .int .i64 0, .int .i64 0, .int .i64 0, .int .i64 7, .int .i64 0, .int .i64 0, .int .i64 10, .string ⟨#[]⟩, .int .i64 0, .int .i64 0, .int .i64 0, .int .i64 0, .int .i64 0, .int .i64 0, .int .i64 0, .int .i64 1, .int .i64 0, .int .i64 0, .int .i64 13, .string ⟨#[]⟩, .int .i64 0, .int .i64 0, .int .i64 0, .int .i64 0, .int .i64 0, .int .i64 0, .int .i64 0] 47))) := Lib.hid (by
    have hb := Blk.newA w #[.int .i64 1, .int .i64 0, .int .i64 0, .int .i64 8, .string ⟨#[]⟩, .int .i64 0, .int .i64 0, .int .i64 0, .int .i64 0, .int .i64 0, .int .i64 0, .int .i64 0, .int .i64 2, .int .i64 0, .int .i64 0, .int .i64 0, .string ⟨#[]⟩, .int .i64 0, .int .i64 0, .int .i64 0, .int .i64 0, .int .i64 0, .int .i64 0, .int .i64 0, .int .i64 7, .int .i64 0, .int .i64 0, .int .i64 10, .string ⟨#[]⟩, .int .i64 0, .int .i64 0, .int .i64 0, .int .i64 0, .int .i64 0, .int .i64 0, .int .i64 0, .int .i64 1, .int .i64 0, .int .i64 0, .int .i64 13, .string ⟨#[]⟩, .int .i64 0, .int .i64 0, .int .i64 0, .int .i64 0, .int .i64 0, .int .i64 0, .int .i64 0] 47
    refine ⟨EL.of_rn (c := 4) (T := 47) ⟨[], by simp [Gr.lv, evs, Ev.c], by omega, by rw [List.append_nil]; exact hb⟩ Gr.lv_ok, (Below.refl _ _).alloc (Nat.le_refl _) _⟩)
  go_enter Try.func29, Try.ntmps29
  go_upto_region 2 with fail
  revert H0
  generalize (w.alloc (.cells #[.int .i64 1, .int .i64 0, .int .i64 0, .int .i64 8, .string ⟨#[]⟩, .int .i64 0, .int .i64 0, .int .i64 0, .int .i64 0, .int .i64 0, .int .i64 0, .int .i64 0, .int .i64 2, .int .i64 0, .int .i64 0, .int .i64 0, .string ⟨#[]⟩, .int .i64 0, .int .i64 0, .int .i64 0, .int .i64 0, .int .i64 0, .int .i64 0, .int .i64 0, .int .i64 7, .int .i64 0, .int .i64 0, .int .i64 10, .string ⟨#[]⟩, .int .i64 0, .int .i64 0, .int .i64 0, .int .i64 0, .int .i64 0, .int .i64 0, .int .i64 0, .int .i64 1, .int .i64 0, .int .i64 0, .int .i64 13, .string ⟨#[]⟩, .int .i64 0, .int .i64 0, .int .i64 0, .int .i64 0, .int .i64 0, .int .i64 0, .int .i64 0] 47)) = W0
  intro H0
  go_wp2_with (first
    | (go_at_call 55; (with_reducible refine (gr_ust _ H0).mono ?_); rintro r5 W5 ⟨rfl, bb⟩; have H1 := kp_lv H0 bb; clear bb H0)
    | (go_at_call 55; (with_reducible refine (gr_ust _ H2).mono ?_); rintro r5 W5 ⟨rfl, bb⟩; have H3 := kp_lv H2 bb; clear bb H2)
    | (go_at_call 55; (with_reducible refine (gr_ust _ H4).mono ?_); rintro r5 W5 ⟨rfl, bb⟩; have H5 := kp_lv H4 bb; clear bb H4)
    | (go_at_call 55; (with_reducible refine (gr_ust _ H7).mono ?_); rintro r5 W5 ⟨rfl, bb⟩; have H8 := kp_lv H7 bb; clear bb H7)
    | (go_at_call 21; (with_reducible refine (gr_lv1 (some ⟨w.heap.size, 0, none⟩) 4 ⟨#[]⟩ _ H1.out.1).mono ?_); rintro r5 W5 ⟨rfl, bb⟩; have H2 := kp_lv H1 bb; clear bb H1)
    | (go_at_call 21; (with_reducible refine (gr_lv2 (some ⟨w.heap.size, 0, none⟩) 4 ⟨#[]⟩ _ H3.out.1).mono ?_); rintro r5 W5 ⟨rfl, bb⟩; have H4 := kp_lv H3 bb; clear bb H3)
    | (go_at_call 25; (refine (gr_lv5 w.heap.size 4 (by omega) (by omega) _ H5.out.1).mono ?_); rintro r5 W5 ⟨rr, cc, rfl, hri, bb⟩; have H6 := kp_lv H5 bb; have HR := Lib.hid hri; clear bb H5 hri)
    | (go_at_call 12; (refine (ints_same rr (some ⟨_, 0, none⟩) 1 cc 1 [0] rfl (by omega) _ (HR.out.below ((Below.refl _ _).alloc (Nat.le_refl _) _)) (fun j v hj => by
        match j, hj with
        | 0, hj => injection hj with hj; subst hj; exact ⟨_, 0, rfl, by simp, (Blk.newA _ #[.int .i64 0] 3).cell (i := 0) rfl⟩
        | j + 1, hj => simp at hj)).mono ?_); rintro r5 W5 ⟨rfl, bb⟩; have H7 : Hid (EL W5 (some ⟨w.heap.size, 0, none⟩) (Gr.lv ⟨#[]⟩) ∧ Below w.heap.size w W5) := Lib.hid ⟨(H6.out.1.below ((Below.refl _ _).alloc (Nat.le_refl _) _)).below bb, (H6.out.2.alloc H6.out.2.size _).trans (bb.mono (by have := H6.out.2.size; rw [World.size_alloc]; omega))⟩; clear bb H6 HR)
    | (go_at_call 27; (refine (gr_lv3 (some ⟨w.heap.size, 0, none⟩) 4 ⟨#[]⟩ _ H8.out.1).mono ?_); rintro r5 W5 ⟨rfl, bb⟩; have H9 := kp_lv H8 bb; clear bb H8)
    | (go_at_call 30; (refine (gr_lv4 w.heap.size 4 (by omega) (by omega) ⟨#[]⟩ _ H9.out.1).mono ?_); rintro r5 W5 ⟨rfl, bb⟩; have HA := kp_lv H9 bb; clear bb H9))
  go_ret
  exact ⟨rfl, HA.out.2⟩
end Go.Proofs.Ytdchedkhlfmpeaa
/- Grace: what the laws keep. -/
namespace Go.Proofs.Ytdchedkhlfmpeaa
open Go.ChangeShapes Go.WideShapes Go.ChangeAt Go.RowKit
set_option linter.unusedSimpArgs false
set_option linter.unusedVariables false

theorem kp_r {w W W' : World} {g c : Nat} {L : List Ev} (h : Rn W g c 12 (evs L) 47) (k : Below w.heap.size w W) (b : Below W.heap.size W W') : Hid (Rn W' g c 12 (evs L) 47 ∧ Below w.heap.size w W') := Lib.hid ⟨h.chg (l := []) (Chg.of_fresh b) (by simp), k.trans (b.mono k.size)⟩
theorem kp_2 {w W W' : World} {g c g2 c2 : Nat} {L : List Ev} (h : Rn W g c 12 (evs L) 47) (k : Below w.heap.size w W) (h2 : Rn W' g2 c2 12 (evs L) 47) (b : Below W.heap.size W W') : Hid (Rn W' g c 12 (evs L) 47 ∧ Rn W' g2 c2 12 (evs L) 47 ∧ Below w.heap.size w W') := Lib.hid ⟨h.chg (l := []) (Chg.of_fresh b) (by simp), h2, k.trans (b.mono k.size)⟩
theorem cap_of {W : World} {g c m : Nat} {L : List Ev} (h : Rn W g c 12 (evs L) 47) (hm : L.length = m) : m ≤ c ∧ c ≤ 9223372036854775807 := by
  have h1 := h.len
  rw [evs_len, hm] at h1
  obtain ⟨_, _, h2, _⟩ := h
  exact ⟨by omega, h2⟩
end Go.Proofs.Ytdchedkhlfmpeaa
