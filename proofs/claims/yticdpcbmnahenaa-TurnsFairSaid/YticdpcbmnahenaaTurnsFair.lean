/- P27.4: for every acts and most: between two turns of one who stays ready each other one has at most one turn. No condition. -/
import Derived.Test.YticdpcbmnahenaaOpen
import Derived.WalkKit
import Derived.ProofKit
import Derived.OpenShut
import Derived.Test.YticdpcbmnahenaaTurns2
import Derived.Deep.CutBlock
import Derived.Deep.CutRange
namespace Go.Proofs.Yticdpcbmnahenaa.turnsFair
open Go.Joins Go.ChangeShapes Go.WideShapes Go.ChangeAt Go.RowKit Go.Deep
open Go.ChangeMaps (open_string)
set_option linter.unusedSimpArgs false
set_option linter.unusedVariables false

/-- Who stands ahead of number 0 had no turn since; nobody had two. -/
def FI (A : List Nat) (H : List Int) : Prop := H.length = 6 ∧ (∀ x ∈ A, pHas H (x : Int) = 0) ∧ (∀ v ∈ H, 0 ≤ v ∧ v ≤ 1)
theorem FI.front {A : List Nat} {H : List Int} {x : Nat} (h : FI (x :: A) H) (hx : ¬ x ∈ A) : FI A (pSet H (x : Int) 1) := by
  obtain ⟨h1, h2, h3⟩ := h
  refine ⟨by rw [pSet_length]; exact h1, fun y hy => ?_, fun v hv => ?_⟩
  · have hne : (x : Int) ≠ (y : Int) := fun e => hx (by have : x = y := by omega
                                                        rw [this]; exact hy)
    rw [pHas_set_other hne]
    exact h2 y (List.mem_cons_of_mem _ hy)
  · rcases pSet_mem hv with h | h
    · exact h3 v h
    · omega
theorem FI.zero {B : List Nat} (hB : ¬ 0 ∈ B) : FI B (pSet [0, 0, 0, 0, 0, 0] ((0 : Nat) : Int) 1) := by
  refine ⟨by decide, fun y hy => ?_, fun v hv => ?_⟩
  · have hne : ((0 : Nat) : Int) ≠ (y : Int) := fun e => hB (by have : y = 0 := by omega
                                                                rw [← this]; exact hy)
    rw [pHas_set_other hne]
    by_cases hr : (y : Int) < 0 ∨ (([0, 0, 0, 0, 0, 0] : List Int).length : Int) ≤ (y : Int)
    · exact pHas_out hr
    · have : y = 0 ∨ y = 1 ∨ y = 2 ∨ y = 3 ∨ y = 4 ∨ y = 5 := by simp at hr; omega
      rcases this with rfl | rfl | rfl | rfl | rfl | rfl <;> decide
  · rcases pSet_mem hv with h | h
    · simp at h; omega
    · omega
theorem end_list (ag : Bool) (Ls : List Nat) (x : Nat) : ∃ l, (if ag = true then Ls ++ [x] else Ls) = Ls ++ l := by
  cases ag
  · exact ⟨[], by simp⟩
  · exact ⟨[x], by simp⟩
theorem clamp_any (x : Int) (w : World) :
    Calls Try.prog 21 #[.int .i64 x, .int .i64 0, .int .i64 5] w fun e w' => ∃ m : Int, e = .returned (.int .i64 m) ∧ w = w' := by
  by_cases a1 : x < 0
  · skip
    have h0 : Calls Try.prog 21 #[.int .i64 x, .int .i64 0, .int .i64 5] w fun e w' => e = .returned (.int .i64 0) ∧ w = w' := by
      go_enter Try.func21, Try.ntmps21
      go_wp2
      go_ret
      exact ⟨rfl, rfl⟩
    exact h0.mono fun e w' h => ⟨_, h.1, h.2⟩
  · by_cases a2 : 5 < x
    · skip
      have h0 : Calls Try.prog 21 #[.int .i64 x, .int .i64 0, .int .i64 5] w fun e w' => e = .returned (.int .i64 5) ∧ w = w' := by
        go_enter Try.func21, Try.ntmps21
        go_wp2
        go_ret
        exact ⟨rfl, rfl⟩
      exact h0.mono fun e w' h => ⟨_, h.1, h.2⟩
    · skip
      have h0 : Calls Try.prog 21 #[.int .i64 x, .int .i64 0, .int .i64 5] w fun e w' => e = .returned (.int .i64 x) ∧ w = w' := by
        go_enter Try.func21, Try.ntmps21
        go_wp2
        go_ret
        exact ⟨rfl, rfl⟩
      exact h0.mono fun e w' h => ⟨_, h.1, h.2⟩
/-- The turns, and the list of who had a turn, in block g. -/
def FS (w0 w : World) (t b R I p h n : Nat) (on : Bool) (who dn : Nat) (L : List Nat) (V : List Int) (g : Nat) (H : List Int) : Prop :=
  TS w0 w t b R I p h n 3 on who dn L V ∧ Blk w g (H.map pv) 3 ∧ (g ≠ t ∧ g ≠ b ∧ g ≠ R ∧ g ≠ I ∧ g ≠ p ∧ g ≠ h) ∧ w0.heap.size ≤ g
section
variable {w0 w w' : World} {t b R I p h n : Nat} {on : Bool} {who dn : Nat} {L : List Nat} {V : List Int} {g : Nat} {H : List Int}
theorem FS.to {on' : Bool} {who' dn' : Nat} {L' : List Nat} {V' : List Int} {l : List Nat} (s : FS w0 w t b R I p h n on who dn L V g H) (a : TAt w' t b R I p h n 3 on' who' dn' L' V') (k : Chg l w w') (hl : ∀ x ∈ l, x = t ∨ x = b ∨ x = R ∨ x = I ∨ x = p ∨ x = h) : FS w0 w' t b R I p h n on' who' dn' L' V' g H := by
  obtain ⟨s1, s2, s3, s4⟩ := s
  exact ⟨s1.to a k hl, s2.chg k (fun hm => by rcases hl g hm with e | e | e | e | e | e <;> omega), s3, s4⟩
theorem FS.fresh (s : FS w0 w t b R I p h n on who dn L V g H) (k : Below w.heap.size w w') : FS w0 w' t b R I p h n on who dn L V g H := by
  obtain ⟨s1, s2, s3, s4⟩ := s
  exact ⟨s1.fresh k, s2.below k s2.lt, s3, s4⟩
theorem FS.new (s : TS w0 w t b R I p h n 3 on who dn L V) : FS w0 (w.alloc (.cells (Array.replicate 6 (.int .i64 0)) 3)) t b R I p h n on who dn L V w.heap.size [0, 0, 0, 0, 0, 0] := by
  have hl := s.1.lts
  have hs := s.2.1.size
  refine ⟨s.fresh ((Below.refl _ _).alloc (Nat.le_refl _) _), ?_, by omega, hs⟩
  exact Blk.newA w _ 3
theorem FS.set (s : FS w0 w t b R I p h n on who dn L V g H) (j : Nat) (v : Int) : FS w0 (w.setCell ⟨g, j, none⟩ (.int .i64 v)) t b R I p h n on who dn L V g (pSet H (j : Int) v) := by
  obtain ⟨s1, s2, s3, s4⟩ := s
  have k := (Chg.refl [g] w).set (b := g) (Or.inl (by simp)) j (.int .i64 v)
  refine ⟨⟨s1.1.chg k (by simp; omega) (by simp; omega) (by simp; omega) (by simp; omega) (by simp; omega) (by simp; omega), k.onto s1.2.1 s1.2.1.size (by simp; omega), s1.2.2⟩, ?_, s3, s4⟩
  rw [pSet_nat, List.map_set]
  exact s2.set j (pv v)
theorem FS.cell (s : FS w0 w t b R I p h n on who dn L V g H) (hl : H.length = 6) (j : Nat) (hj : j < 6) : w.cell? ⟨g, j, none⟩ = some (.int .i64 (pHas H (j : Int))) := by
  have hv : H[j]? = some H[j] := List.getElem?_eq_getElem (by omega)
  rw [pHas_nat hv]
  exact s.2.1.cell (by rw [List.getElem?_map, hv]; rfl)
theorem FS.free (s : FS w0 w t b R I p h n on who dn L V g H) (j : Nat) : w.frozen? ⟨g, j, none⟩ = false := s.2.1.free j
end
theorem FS.late {w0 W w' : World} {X t b R I p h n : Nat} {on : Bool} {who dn : Nat} {L : List Nat} {V : List Int} (hW : Below w0.heap.size w0 W) (hX : w0.heap.size ≤ X) (hX1 : X < W.heap.size) (hb : Blk W X (List.map pv [0, 0, 0, 0, 0, 0]) 3)
    (s : TAt w' t b R I p h n 3 on who dn L V ∧ Below W.heap.size W w' ∧ (W.heap.size ≤ t ∧ W.heap.size ≤ b ∧ W.heap.size ≤ R ∧ W.heap.size ≤ I ∧ W.heap.size ≤ p ∧ W.heap.size ≤ h)) :
    FS w0 w' t b R I p h n on who dn L V X [0, 0, 0, 0, 0, 0] := by
  obtain ⟨s1, s2, s3⟩ := s
  have hs := hW.size
  exact ⟨⟨s1, hW.trans (s2.mono hs), by omega⟩, hb.below s2 hX1, by omega, hX⟩
/-- .. and one's act, in block X. -/
def FX (w0 w : World) (t b R I p h n : Nat) (on : Bool) (who dn : Nat) (L : List Nat) (V : List Int) (g : Nat) (H : List Int) (X : Nat) (cs : List Value) : Prop :=
  FS w0 w t b R I p h n on who dn L V g H ∧ Blk w X cs 35 ∧ (X ≠ t ∧ X ≠ b ∧ X ≠ R ∧ X ≠ I ∧ X ≠ p ∧ X ≠ h)
theorem FX.to {w0 w w' : World} {t b R I p h n : Nat} {on : Bool} {who dn : Nat} {L : List Nat} {V : List Int} {g : Nat} {H : List Int} {X : Nat} {cs : List Value} {on' : Bool} {who' dn' : Nat} {L' : List Nat} {V' : List Int} {l : List Nat} (s : FX w0 w t b R I p h n on who dn L V g H X cs) (a : TAt w' t b R I p h n 3 on' who' dn' L' V') (k : Chg l w w') (hl : ∀ x ∈ l, x = t ∨ x = b ∨ x = R ∨ x = I ∨ x = p ∨ x = h) : FX w0 w' t b R I p h n on' who' dn' L' V' g H X cs := by
  obtain ⟨s1, s2, s3⟩ := s
  exact ⟨s1.to a k hl, s2.chg k (fun hm => by rcases hl X hm with e | e | e | e | e | e <;> omega), s3⟩
theorem FX.new {w0 w : World} {t b R I p h n : Nat} {on : Bool} {who dn : Nat} {L : List Nat} {V : List Int} {g : Nat} {H : List Int} (s : FS w0 w t b R I p h n on who dn L V g H) (cs : Array Value) : FX w0 (w.alloc (.cells cs 35)) t b R I p h n on who dn L V g H w.heap.size cs.toList := by
  have hl := s.1.1.lts
  exact ⟨s.fresh ((Below.refl _ _).alloc (Nat.le_refl _) _), Blk.newA w cs _, by omega⟩
theorem FI.have0 {A : List Nat} {H : List Int} {x : Nat} (h : FI (x :: A) H) : pHas H (x : Int) = 0 := h.2.1 x (by simp)
theorem join_zero {A B Ls l4 l5 : List Nat} (h : Ls = A ++ 0 :: B) : (Ls ++ l4) ++ l5 = A ++ 0 :: (B ++ l4 ++ l5) := by subst h; simp
set_option maxRecDepth 20000 in
set_option maxHeartbeats 8000000 in

theorem walk (a0 : Option Addr) (len0 cap0 : Nat) (a1 : Int) (w : World) (w0 : IsRecs .i64 3 w a0 len0 cap0) (w1 : (Lit.int .u8 a1).wf = true) :
    Calls Try.prog 5 #[.slice a0 len0 cap0, .int .u8 a1] w fun e w' => e = .returned (.bool true) ∧ Below w.heap.size w w' := by
  obtain ⟨hlc, hcm, hnil, hcell⟩ := w0
  unfold maxLen at hcm
  have HCELL := Lib.hid hcell
  clear hcell hnil
  have b1 : 0 ≤ a1 ∧ a1 ≤ 255 := bounds_u8 w1
  obtain ⟨nm, hnm, hn5⟩ : ∃ nm : Nat, a1 % 6 = (nm : Int) ∧ nm ≤ 5 := ⟨(a1 % 6).toNat, by omega, by omega⟩
  obtain ⟨n, hn, hn1⟩ : ∃ n : Nat, 1 + (nm : Int) = (n : Int) ∧ 1 ≤ n ∧ n ≤ 6 := ⟨nm + 1, by omega, by omega⟩
  have hm : ∀ W, (Instr.makeSlice 27 (.int .i64 6) (.int .i64 6)).run Try.prog W = .ok (.slice (some ⟨W.heap.size, 0, none⟩) 6 6) (W.alloc (.cells (List.replicate 6 (.int .i64 0)).toArray 3)) := fun W =>
    run_make_blk W _ _ _ Try.underlying27 8 Pur.infoi rfl 6 6 (Nat.le_refl _) (by omega) (by omega)
  have HNN : Hid (min (max (n : Int) 1) 1024 = (n : Int)) := Lib.hid (by omega)
  go_enter Try.func5, Try.ntmps5
  go_upto_region 2 with fail
  go_cut [6, 7] from 13 to 19 (fun s6 s7 wx => ∃ t b R I p h g : Nat, s6 = .pointer (some ⟨t, 0, none⟩) ∧ s7 = .slice (some ⟨g, 0, none⟩) 6 6 ∧ Hid (FS w wx t b R I p h n false 0 0 [] (List.replicate n 0) g [0, 0, 0, 0, 0, 0]))
  case first =>
    go_region_with (go_at_call 7; refine (t_new n n 3 3 _ HNN.out (by decide)).mono ?_; rintro e w1 ⟨t, b, R, I, p, h, rfl, k⟩; have HK := Lib.hid k; clear k)
    all_goals
      go_simp
      go_wp2
      go_meet
    · exact ⟨t, b, R, I, p, h, _, rfl, rfl, FS.new ⟨HK.out.1, ((Below.refl _ w).drew).trans HK.out.2.1, HK.out.2.2⟩⟩
    · exact ⟨t, b, R, I, p, h, _, rfl, rfl, FS.late (((Below.refl _ w).alloc (Nat.le_refl _) _).drew) (Nat.le_refl _) (by simp) (Blk.newA w _ _).drew HK.out⟩
  case rest =>
    obtain ⟨t, b, R, I, p, h, g0, rfl, rfl, HS0⟩ := hcut
    clear hm
    go_wp2_with fail
    go_loopw [8] (fun i wr => ∃ k : Nat, i = .int .i64 k ∧ k ≤ n ∧ Hid (FS w wr t b R I p h n false 0 0 (List.range k) (List.replicate n 0) g0 [0, 0, 0, 0, 0, 0])) (fun i _ => 7 - (intOf i).toNat)
    case atStart => exact ⟨0, rfl, by omega, HS0⟩
    case round =>
      clear HS0
      obtain ⟨k, rfl, hk, HS⟩ := hrel
      by_cases h5 : k < n
      · have HN : Hid (tW false 0 (List.range k) (k : Int) = false) := Lib.hid (by unfold tW; rw [isIn_nat]; simp)
        go_wp2_with (go_at_call 10; refine (t_wake_yes t b R I p h n 3 false 0 0 (List.range k) _ _ k h5 HS.out.1.1 HN.out).mono ?_; rintro e w2 ⟨rfl, k1, k2⟩; have HS2 : Hid (FS w w2 t b R I p h n false 0 0 (List.range (k + 1)) (List.replicate n 0) g0 [0, 0, 0, 0, 0, 0]) := Lib.hid (HS.out.to (by rw [List.range_succ]; exact k1) k2 (by simp)); clear k1 k2 HS)
        refine ⟨?_, ?measure⟩
        case measure => simp [intOf]; omega
        first
          | exact ⟨k + 1, by go_num, by omega, HS2⟩
          | ((repeat apply Exists.intro); exact ⟨⟨k + 1, by go_num, by omega, HS2⟩, rfl⟩)
      · obtain rfl : k = n := by omega
        have HR : Hid (List.range k = [] ++ 0 :: (List.range' 1 (k - 1))) := Lib.hid (by obtain ⟨m, rfl⟩ : ∃ m, k = m + 1 := ⟨k - 1, by omega⟩; rw [List.nil_append, List.range_eq_range', List.range'_succ]; rfl)
        go_wp2_with fail
        have hm : ∀ W, (Instr.makeSlice 27 (.int .i64 6) (.int .i64 6)).run Try.prog W = .ok (.slice (some ⟨W.heap.size, 0, none⟩) 6 6) (W.alloc (.cells (List.replicate 6 (.int .i64 0)).toArray 3)) := fun W =>
          run_make_blk W _ _ _ Try.underlying27 8 Pur.infoi rfl 6 6 (Nat.le_refl _) (by omega) (by omega)
        go_loopw [7, 9] (fun hd i wr => ∃ (j dn who g : Nat) (L A B : List Nat) (V H : List Int), hd = .slice (some ⟨g, 0, none⟩) 6 6 ∧ i = .int .i64 j ∧ j ≤ 40 ∧ j ≤ len0 ∧ dn ≤ j ∧ Hid (L = A ++ 0 :: B) ∧ Hid (FI A H) ∧ Hid (FS w wr t b R I p h k false who dn L V g H)) (fun _ i _ => 50 - (intOf i).toNat)
        case atStart => exact ⟨0, 0, 0, g0, _, [], List.range' 1 (k - 1), _, _, rfl, rfl, by omega, by omega, by omega, HR, Lib.hid ⟨by decide, by simp, fun v hv => by simp at hv; omega⟩, HS⟩
        case round =>
          clear HS
          obtain ⟨j, dn, who, g, L, A, B, V, H, rfl, rfl, hj40, hjl, hdn, HL, HI, HS⟩ := hrel
          by_cases hjlt : j < len0
          · by_cases h40 : j < 40
            · obtain ⟨bb, off, hab, hbl, hcl⟩ := HCELL.out (by omega)
              subst hab
              obtain ⟨kd, e0, wkd⟩ := hcl j hjlt 0 (by omega)
              obtain ⟨id, e1, wid⟩ := hcl j hjlt 1 (by omega)
              obtain ⟨pr, e2, wpr⟩ := hcl j hjlt 2 (by omega)
              have HE := Lib.hid (And.intro e0 (And.intro e1 (And.intro e2 hbl)))
              clear hcl e0 e1 e2 wkd wid wpr hbl
              obtain ⟨x, Ls, hx⟩ : ∃ x Ls, A ++ 0 :: B = x :: Ls := by
                cases A with
                | nil => exact ⟨0, B, rfl⟩
                | cons x A => exact ⟨x, A ++ 0 :: B, rfl⟩
              have HX := Lib.hid (HL.out.trans hx)
              have HX2 := Lib.hid hx
              clear hx
              go_wp2_with fail
              refine (t_begin_some t b R I p h k 3 who dn V _ x Ls (by omega) (by rw [← HX.out]; exact HS.out.1.1)).mono ?_
              rintro e w2 ⟨rfl, k1, k2⟩
              have hxn := (k1.2.1 rfl).1
              have hxL := Lib.hid (k1.2.1 rfl).2
              have HS2 := Lib.hid (HS.out.to k1 k2 (by simp))
              clear k1 k2 HS
              generalize pSet V (x : Int) (min (pHas V (x : Int) + 3) 2000000000) = V1 at HS2
              have hx6 : x < 6 := by omega
              have hxk : (x : Int) < (k : Int) := by omega
              have hx0 : (0 : Int) ≤ (x : Int) := by omega
              have hx6' : (x : Int) < 6 := by omega
              by_cases hz : x = 0
              · subst hz
                have HAB : Hid (Ls = B) := Lib.hid (by
                  have h2 := HX2.out
                  cases A with
                  | nil => simpa using h2.symm
                  | cons a A => 
                    rw [List.cons_append] at h2
                    injection h2 with _ h4
                    exact absurd (show 0 ∈ Ls by rw [← h4]; simp) hxL.out)
                have HF : Hid (FI B (pSet [0, 0, 0, 0, 0, 0] ((0 : Nat) : Int) 1)) := Lib.hid (FI.zero (by rw [← HAB.out]; exact hxL.out))
                go_upto_region 15 with fail
                have HS3 := Lib.hid (FS.new HS2.out.1)
                have hr : Array.replicate 6 (Value.int .i64 0) = #[.int .i64 0, .int .i64 0, .int .i64 0, .int .i64 0, .int .i64 0, .int .i64 0] := rfl
                rw [hr] at HS3
                revert HS3
                generalize w2.alloc (.cells #[.int .i64 0, .int .i64 0, .int .i64 0, .int .i64 0, .int .i64 0, .int .i64 0] 3) = W3
                generalize w2.heap.size = g3
                intro HS3
                have z0 := HS3.out.cell (by decide) 0 (by decide)
                have f0 := HS3.out.free 0
                rw [show pHas [0, 0, 0, 0, 0, 0] ((0 : Nat) : Int) = 0 by decide] at z0
                go_upto_region 16 with fail
                have HS4 := Lib.hid (HS3.out.set 0 1)
                clear z0 f0 HS3 hr
                revert HS4
                generalize W3.setCell ⟨g3, 0, none⟩ (.int .i64 1) = W4
                intro HS4
                have HP1 : Hid (pHas (pSet [0, 0, 0, 0, 0, 0] ((0 : Nat) : Int) 1) ((0 : Nat) : Int) = 1) := Lib.hid (by decide)
                have z1 := HS4.out.cell (by decide) 0 (by omega)
                rw [HP1.out] at z1
                go_upto_region 18 with fail
                have y0 : W4.cell? ⟨bb, off + j * 3, none⟩ = some (.int .i64 kd) := by rw [HS4.out.1.2.1.cell (by simpa using HE.out.2.2.2)]; simpa using HE.out.1
                have y1 : W4.cell? ⟨bb, off + j * 3 + 1, none⟩ = some (.int .i64 id) := by rw [HS4.out.1.2.1.cell (by simpa using HE.out.2.2.2), Nat.add_assoc]; exact HE.out.2.1
                have y2 : W4.cell? ⟨bb, off + j * 3 + 1 + 1, none⟩ = some (.int .i64 pr) := by rw [HS4.out.1.2.1.cell (by simpa using HE.out.2.2.2), Nat.add_assoc, Nat.add_assoc]; exact HE.out.2.2.1
                go_upto_region 19 with fail
                have HS5 := Lib.hid (FX.new HS4.out #[Value.int .i64 kd, Value.int .i64 id, Value.int .i64 pr])
                clear y0 y1 y2 z1
                revert HS5
                generalize W4.alloc (Obj.cells #[Value.int .i64 kd, Value.int .i64 id, Value.int .i64 pr] 35) = W5
                generalize W4.heap.size = X
                intro HS5
                have u0 := HS5.out.2.1.cell (i := 0) rfl
                skip
                go_wp2_with (first
                  | (go_at_call 16; refine (t_end_on t b R I p h k 3 0 (dn + 1) Ls V1 _ true HS5.out.1.1.1).mono ?_; rintro e w6 ⟨rfl, k1, k2⟩; obtain ⟨l4, hl4⟩ := end_list true Ls 0; have HL4 := Lib.hid hl4; rw [hl4] at k1; have HS6 := Lib.hid (HS5.out.to k1 k2 (by simp)); clear k1 k2 hl4; have u1 := HS6.out.2.1.cell (i := 1) rfl)
                  | (go_at_call 21; refine (clamp_any _ _).mono ?_; rintro e w7 ⟨m7, rfl, rfl⟩)
                  | (go_at_call 10; refine (t_wake_any t b R I p h k 3 false 0 (dn + 1) (Ls ++ l4) _ _ m7 HS6.out.1.1.1).mono ?_; rintro e w8 ⟨m8, L8, rfl, k1, k2, k3⟩; have HS8 := Lib.hid (HS6.out.to k1 k2 (by simp)); have HL8 : Hid (∃ l5, L8 = (Ls ++ l4) ++ l5) := Lib.hid (by rcases k3 with e | ⟨y, e⟩ <;> rw [e]; exact ⟨[], by simp⟩; exact ⟨[y], rfl⟩); clear k1 k2 k3))
                obtain ⟨l5, hl5⟩ := HL8.out
                have HL9 := Lib.hid hl5
                clear hl5
                refine ⟨?_, ?measure⟩
                case measure => simp [intOf]; omega
                first
                  | exact ⟨j + 1, dn + 1, 0, g3, L8, B, l5, _, _, rfl, by go_num, by omega, by omega, by omega, Lib.hid (by rw [HL9.out, ← HL4.out, HAB.out]; simp), HF, HS8.out.1⟩
                  | ((repeat apply Exists.intro); exact ⟨⟨j + 1, dn + 1, 0, g3, L8, B, l5, _, _, rfl, by go_num, by omega, by omega, by omega, Lib.hid (by rw [HL9.out, ← HL4.out, HAB.out]; simp), HF, HS8.out.1⟩, rfl⟩)
              · have hz2 : ((x : Int) == 0) = false := by simp; omega
                obtain ⟨A1, hA1⟩ : ∃ A1, A = x :: A1 ∧ Ls = A1 ++ 0 :: B := by
                  have h2 := HX2.out
                  cases A with
                  | nil => 
                    rw [List.nil_append] at h2
                    injection h2 with h3 h4
                    exact absurd h3.symm hz
                  | cons a A => 
                    rw [List.cons_append] at h2
                    injection h2 with h3 h4
                    exact ⟨A, by rw [h3], h4.symm⟩
                have HAB := Lib.hid hA1.2
                have HA1 := Lib.hid hA1.1
                clear hA1
                have HI1 : Hid (FI (x :: A1) H) := Lib.hid (by rw [← HA1.out]; exact HI.out)
                have HF := Lib.hid (HI1.out.front (fun hm => hxL.out (by rw [HAB.out]; exact List.mem_append_left _ hm)))
                have z0 := HS2.out.cell HI1.out.1 x hx6
                rw [HI1.out.have0] at z0
                have f0 := HS2.out.free x
                go_upto_region 16 with fail
                have HS4 := Lib.hid (HS2.out.set x 1)
                clear z0 f0 HS2
                revert HS4
                generalize w2.setCell ⟨g, x, none⟩ (.int .i64 1) = W4
                intro HS4
                have HP1 : Hid (pHas (pSet H (x : Int) 1) (x : Int) = 1) := Lib.hid (pHas_set_same (by have := HI1.out.1; omega))
                have z1 := HS4.out.cell (by rw [pSet_length]; exact HI1.out.1) x (by omega)
                rw [HP1.out] at z1
                go_upto_region 18 with fail
                have y0 : W4.cell? ⟨bb, off + j * 3, none⟩ = some (.int .i64 kd) := by rw [HS4.out.1.2.1.cell (by simpa using HE.out.2.2.2)]; simpa using HE.out.1
                have y1 : W4.cell? ⟨bb, off + j * 3 + 1, none⟩ = some (.int .i64 id) := by rw [HS4.out.1.2.1.cell (by simpa using HE.out.2.2.2), Nat.add_assoc]; exact HE.out.2.1
                have y2 : W4.cell? ⟨bb, off + j * 3 + 1 + 1, none⟩ = some (.int .i64 pr) := by rw [HS4.out.1.2.1.cell (by simpa using HE.out.2.2.2), Nat.add_assoc, Nat.add_assoc]; exact HE.out.2.2.1
                go_upto_region 19 with fail
                have HS5 := Lib.hid (FX.new HS4.out #[Value.int .i64 kd, Value.int .i64 id, Value.int .i64 pr])
                clear y0 y1 y2 z1
                revert HS5
                generalize W4.alloc (Obj.cells #[Value.int .i64 kd, Value.int .i64 id, Value.int .i64 pr] 35) = W5
                generalize W4.heap.size = X
                intro HS5
                have u0 := HS5.out.2.1.cell (i := 0) rfl
                obtain ⟨ag, hag⟩ : ∃ ag : Bool, (kd.tmod 2 == 0) = ag := ⟨_, rfl⟩
                go_wp2_with (first
                  | (go_at_call 16; refine (t_end_on t b R I p h k 3 x (dn + 1) Ls V1 _ ag HS5.out.1.1.1).mono ?_; rintro e w6 ⟨rfl, k1, k2⟩; obtain ⟨l4, hl4⟩ := end_list ag Ls x; have HL4 := Lib.hid hl4; rw [hl4] at k1; have HS6 := Lib.hid (HS5.out.to k1 k2 (by simp)); clear k1 k2 hl4; have u1 := HS6.out.2.1.cell (i := 1) rfl)
                  | (go_at_call 21; refine (clamp_any _ _).mono ?_; rintro e w7 ⟨m7, rfl, rfl⟩)
                  | (go_at_call 10; refine (t_wake_any t b R I p h k 3 false x (dn + 1) (Ls ++ l4) _ _ m7 HS6.out.1.1.1).mono ?_; rintro e w8 ⟨m8, L8, rfl, k1, k2, k3⟩; have HS8 := Lib.hid (HS6.out.to k1 k2 (by simp)); have HL8 : Hid (∃ l5, L8 = (Ls ++ l4) ++ l5) := Lib.hid (by rcases k3 with e | ⟨y, e⟩ <;> rw [e]; exact ⟨[], by simp⟩; exact ⟨[y], rfl⟩); clear k1 k2 k3))
                obtain ⟨l5, hl5⟩ := HL8.out
                have HL9 := Lib.hid hl5
                clear hl5
                refine ⟨?_, ?measure⟩
                case measure => simp [intOf]; omega
                first
                  | exact ⟨j + 1, dn + 1, x, g, L8, A1, (B ++ l4 ++ l5), _, _, rfl, by go_num, by omega, by omega, by omega, Lib.hid (by rw [HL9.out]; exact join_zero HAB.out), HF, HS8.out.1⟩
                  | ((repeat apply Exists.intro); exact ⟨⟨j + 1, dn + 1, x, g, L8, A1, (B ++ l4 ++ l5), _, _, rfl, by go_num, by omega, by omega, by omega, Lib.hid (by rw [HL9.out]; exact join_zero HAB.out), HF, HS8.out.1⟩, rfl⟩)
            · go_wp2_with (go_at_call 20; refine (lives_any _).mono ?_; rintro e w9 ⟨rfl, hb⟩)
              go_ret
              exact ⟨rfl, (HS.out.fresh hb).1.2.1⟩
          · go_wp2_with (go_at_call 20; refine (lives_any _).mono ?_; rintro e w9 ⟨rfl, hb⟩)
            go_ret
            exact ⟨rfl, (HS.out.fresh hb).1.2.1⟩

set_option maxRecDepth 100000 in
theorem lifted (os : Os) (started : os.Started) (H : Type) (enc : TypeId × Value → H) :
    ReturnsInHanded {} Try.checked os 5 .any (Rows.turnsFairSpec.pre6 enc Try.prog Try.f5 Rows.turnsFairRow.domain false) (Rows.turnsFairSpec.post enc Try.prog Try.f5 false true false false) := by
  refine returnsInHanded_of_change (C := Try.checked) ownKn started (by kernel_rfl) Try.func5
    (ChangeSpec.witness6 (enc := enc) (C := Try.checked) false ⟨#[], #[.slice none 0 0, .int .u8 0], []⟩ 8 (by kernel_rfl) (by kernel_rfl) (by kernel_rfl) (by kernel_rfl)) ?_
  intro W base args ds gs before hval0 hW hcnd _
  have hval : ∀ (j : Nat) t v, Try.f5.params[j]? = some t → args[j]? = some v → Value.okWide Try.prog W .any base t v := hval0
  have hW' := hW
  obtain ⟨p, q, hA0, hV, rfl, hfz, hnd⟩ := hW
  have hA : DataW.TrodAll enc Try.prog W 0 (fun _ => true) true Try.f5.params.toList args.toList ds p := hA0
  rw [Try.params5] at hA hval
  obtain ⟨v0, vs0, d0, ds0, p0, q0, hargs, rfl, rfl, h0, r0⟩ := trodAll_cons hA
  obtain ⟨v1, vs1, d1, ds1, p1, q1, rfl, rfl, rfl, h1, r1⟩ := trodAll_cons r0
  obtain ⟨rfl, rfl, rfl⟩ := trodAll_nil r1
  obtain rfl : args = #[v0, v1] := by cases args; simp_all
  obtain ⟨rfl, rfl⟩ := trodVars_none hV
  have k0 := h0
  have lt0 : ∀ x ∈ p0, x.block < W.heap.size := by obtain ⟨m, hm⟩ := k0; exact DataW.trod_lt m _ _ _ hm
  obtain ⟨b0, lb0, cb0, rfl⟩ := okWide_slice Try.underlying22 (hval 0 22 v0 rfl rfl)
  obtain ⟨fu0, hf0⟩ := h0
  simp only [Value.cells] at hf0
  obtain ⟨a0, len0, cap0, e0, w0⟩ := fld_recs (k := .i64) Try.underlying22 Try.underlying35 (by kernel_rfl) (by kernel_rfl) (by intro j f h; obtain rfl | rfl | rfl | hj : j = 0 ∨ j = 1 ∨ j = 2 ∨ 3 ≤ j := (by omega); all_goals (first | (simp at h; subst h; exact Try.underlying3) | (rw [Array.getElem?_eq_none (by simpa using hj)] at h; cases h))) (by decide) hf0
  obtain ⟨rfl, rfl, rfl⟩ : b0 = a0 ∧ lb0 = len0 ∧ cb0 = cap0 := by simpa using e0
  have k1 := h1
  have lt1 : ∀ x ∈ p1, x.block < W.heap.size := by obtain ⟨m, hm⟩ := k1; exact DataW.trod_lt m _ _ _ hm
  obtain ⟨a1, rfl, rfl, rfl, w1⟩ := open_int Try.underlying5 (hval 1 5 v1 rfl rfl) h1
  clear hA0 hval0
  refine (walk b0 lb0 cb0 a1 W w0 w1).mono fun e W' ⟨he, bel⟩ => ?_
  subst he
  exact ⟨_, rfl, _, _, _, [], _, [], hW', trodAll_mk1 (shut_bool Try.underlying4 _), (trodAll_cons_mk (Below.trod laidOut (by kernel_rfl) (of_decide_eq_true (by kernel_rfl)) k0 bel lt0) (trodAll_cons_mk (Below.trod laidOut (by kernel_rfl) (of_decide_eq_true (by kernel_rfl)) k1 bel lt1) trodAll_mk0)), rfl, bel.frame _, fun h => by cases h⟩

theorem over : Rows.turnsFairRow.holds Try.pinned (OpenSpec.ofChange Rows.turnsFairSpec) :=
  OpenClaim.holds_of_wide 5 Try.f5 rfl rfl rfl rfl rfl rfl rfl ⟨rfl, rfl, rfl, rfl, rfl⟩ rfl rfl rfl rfl rfl (by kernel_rfl) Try.func5 (by kernel_rfl)
    (of_decide_eq_true (by kernel_rfl)) (by unfold Func.isWrapper; first | (rw [if_pos (by decide +kernel)]; kernel_rfl) | (rw [if_neg (by decide +kernel)]; exact ⟨rfl, rfl⟩))
    (fun os started H enc _ => lifted os started H enc)

/-- The statement. -/
theorem proved : Rows.TurnsFairSaid := over
#print axioms proved
end Go.Proofs.Yticdpcbmnahenaa.turnsFair
