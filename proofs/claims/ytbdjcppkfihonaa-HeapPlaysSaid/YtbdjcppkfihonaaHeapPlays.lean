/- P5.1, P5.2: for every most, acts and ask: what a heap tells of any calls, and all that it holds behind each, is as the page says. No condition. -/
import Derived.Test.YtbdjcppkfihonaaOpen
import Derived.WalkKit
import Derived.ProofKit
import Derived.OpenShut
import Derived.Test.YtbdjcppkfihonaaHe22
import Derived.Test.YtbdjcppkfihonaaMix
import Derived.Deep.CutRange
import Derived.Deep.CutBlock
import Derived.Deep.RegionLaw
namespace Go.Proofs.Ytbdjcppkfihonaa.heapPlays
open Go.Joins Go.ChangeShapes Go.WideShapes Go.ChangeAt Go.RowKit Go.Deep
open Go.ChangeMaps (open_string)
set_option linter.unusedSimpArgs false
set_option linter.unusedVariables false

set_option maxRecDepth 100000 in
set_option maxHeartbeats 16000000 in

theorem walk (a0 : Int) (a1 : Option Addr) (len1 cap1 : Nat) (a2 : Int) (w : World) (w0 : (Lit.int .i64 a0).wf = true) (w1 : IsRecs .i64 3 w a1 len1 cap1) (w2 : (Lit.int .i64 a2).wf = true) :
    Calls Try.prog 3 #[.int .i64 a0, .slice a1 len1 cap1, .int .i64 a2] w fun e w' => e = .returned (.bool true) ∧ Below w.heap.size w w' := by
  obtain ⟨hlc, hcm, hnil, hcell⟩ := w1
  unfold maxLen at hcm
  obtain ⟨k, hk⟩ : ∃ k : Nat, min (max a0 1) 1024 = (k : Int) := ⟨(min (max a0 1) 1024).toNat, by omega⟩
  have HK := Lib.hid hk
  have k1 : 1 ≤ k ∧ k ≤ 1024 := by omega
  clear hk
  have HCELL := Lib.hid hcell
  clear hcell hnil
  go_enter Try.func3, Try.ntmps3
  go_wp2_with fail
  refine (he_new a0 k HK.out w).mono ?_
  rintro e u1 ⟨rfl, q1, q2⟩
  have HF : Hid (HQ w u1 (w.heap.size + 1) w.heap.size k 0 0 none []) := Lib.hid ⟨q1, q2, by omega, by omega, by simp [rvB]⟩
  clear q1 q2
  have HS : Hid (SH w (u1.alloc (.cells #[] 38)) (w.heap.size + 1) w.heap.size k 0 0 none [] u1.heap.size 0) := Lib.hid (by
    have q0 := (Below.refl u1.heap.size u1).alloc (Nat.le_refl _) (.cells #[] 38)
    have h1 := HF.out.1.o.lt
    have h2 := HF.out.1.a.lt
    refine ⟨HF.out.below q0, ⟨?_, fun j x1 x2 h => by simp at h⟩, ?_⟩
    · intro g hg; rw [rvB_some] at hg; simp at hg ⊢; omega
    · intro g hg; rw [rvB_some] at hg; simp [rvB] at hg ⊢; omega)
  clear HF
  go_wp2_with fail
  refine (within_any5 a0 k HK.out _).mono ?_
  rintro e u2 ⟨rfl, rfl⟩
  revert HS
  generalize (u1.alloc (.cells #[] 38)) = u2
  generalize w.heap.size + 1 = p
  obtain ⟨ga, hga⟩ : ∃ ga, w.heap.size = ga := ⟨_, rfl⟩
  generalize u1.heap.size = g0
  intro HS
  have HKK : Hid (∀ W, HQ w W p w.heap.size k 0 0 none [] → Calls Try.prog 14 #[.pointer (some ⟨p, 0, none⟩)] W fun e w' => e = .returned (.int .i64 k) ∧ W = w') := Lib.hid fun W hW => (he_most p w.heap.size k W hW.1.c1).mono fun e w' h => ⟨h.1, h.2.symm⟩
  go_wp2_with (first
    | (go_at_call 14; refine (HKK.out _ HS.out.1).mono ?_; rintro e v0 ⟨rfl, rfl⟩)
    | (go_at_call 15; refine (told5 p w.heap.size k 0 0 none [] _ 0 a2 _ HS.out.1.1 HS.out.2.1).mono ?_; rintro e v1 ⟨rfl, b1⟩; have HS1 : Hid (SH w v1 p w.heap.size k 0 0 none [] g0 0) := Lib.hid (HS.out.below b1); clear b1))
  clear HS HKK
  revert HS1
  rw [hga]
  intro HS1
  have HGA := Lib.hid hga
  clear hga
  go_loopw [8, 10] (fun v i wr => ∃ (j n c : Nat) (r : Option Addr) (L : List (Int × Int)) (g o cc : Nat), v = .slice (some ⟨g, o, none⟩) n cc ∧ i = .int .i64 j ∧ j ≤ 40 ∧ j ≤ len1 ∧ n ≤ cc ∧ cc ≤ 9223372036854775807 ∧ Hid (SH w wr p ga k n c r L g o)) (fun _ i _ => 40 - (intOf i).toNat)
  case atStart => exact ⟨0, 0, 0, none, [], g0, 0, 0, rfl, rfl, by omega, by omega, by omega, by omega, HS1⟩
  case round =>
    clear HS1
    obtain ⟨j, n, c, r, L, g, o, cc, rfl, rfl, hj40, hjl, hLc, hcc, HS⟩ := hrel
    have hn6 : n ≤ 1024 := by have := HS.out.1.1.nk; omega
    by_cases hlt : j < len1
    · by_cases h40 : j < 40
      · have j40 : (j : Int) < 40 := by omega
        have j40b : decide ((j : Int) < 40) = true := by simpa using j40
        obtain ⟨bb, off, hab, hbl, hcl⟩ := HCELL.out (by omega)
        subst hab
        obtain ⟨kd, e0, wkd⟩ := hcl j hlt 0 (by omega)
        obtain ⟨id, e1, wid⟩ := hcl j hlt 1 (by omega)
        obtain ⟨tm, e2, wtm⟩ := hcl j hlt 2 (by omega)
        have htm : tm ≤ 9223372036854775807 := (bounds_i64 wtm).2
        have y0 : wr.cell? ⟨bb, off + j * 3, none⟩ = some (.int .i64 kd) := by rw [HS.out.1.2.1.cell hbl]; simpa using e0
        have y1 : wr.cell? ⟨bb, off + j * 3 + 1, none⟩ = some (.int .i64 id) := by rw [HS.out.1.2.1.cell hbl]; rw [Nat.add_assoc]; exact e1
        have y2 : wr.cell? ⟨bb, off + j * 3 + 2, none⟩ = some (.int .i64 tm) := by rw [HS.out.1.2.1.cell hbl]; rw [Nat.add_assoc]; exact e2
        clear hcl e0 e1 e2 wkd wid wtm
        go_upto_block 2 with fail
        have H0 : Hid (SH w (wr.alloc (Obj.cells #[Value.int .i64 kd, Value.int .i64 id, Value.int .i64 tm] 30)) p ga k n c r L g o ∧ Blk (wr.alloc (Obj.cells #[Value.int .i64 kd, Value.int .i64 id, Value.int .i64 tm] 30)) wr.heap.size [.int .i64 kd, .int .i64 id, .int .i64 tm] 30) := Lib.hid ⟨HS.out.below ((Below.refl _ _).alloc (Nat.le_refl _) _), Blk.newA wr _ _⟩
        have HX : Hid (wr.heap.size ∉ (p :: ga :: rvB r)) := Lib.hid (by
          have h1 := HS.out.1.1.o.lt; have h2 := HS.out.1.1.a.lt; have h3 := HS.out.1.1.m.lt
          simp; exact ⟨by omega, by omega, fun h => by have := h3 _ h; omega⟩)
        clear y0 y1 y2 HS
        revert H0 HX
        generalize wr.alloc (Obj.cells #[Value.int .i64 kd, Value.int .i64 id, Value.int .i64 tm] 30) = u0
        generalize wr.heap.size = X
        intro H0 HX
        go_cut [8, 12, 13, 14, 15] from 46 to 136 (fun v _ _ _ _ wx => ∃ (n c : Nat) (r : Option Addr) (L : List (Int × Int)) (g o cc : Nat), v = .slice (some ⟨g, o, none⟩) n cc ∧ n ≤ cc ∧ cc ≤ 9223372036854775807 ∧ Hid (SH w wx p ga k n c r L g o))
        case first =>
          by_cases k0 : kd = 0
          · subst k0
            have y1 := H0.out.2.cell (i := 1) rfl
            have y2 := H0.out.2.cell (i := 2) rfl
            by_cases hin : 0 ≤ id ∧ id < (k : Int)
            · obtain ⟨L2, hL2⟩ : ∃ L2, He.set L id tm = L2 := ⟨_, rfl⟩
              have HL2 := Lib.hid (And.intro hL2 hin)
              clear hL2 hin
              go_wp2_with fail
              refine (rf_set5 L n cc H0.out.1.1.1.len (by omega) (k : Int) _ id tm HL2.out.2 htm H0.out.1.1.1.ok.srt L2 HL2.out.1 _ H0.out.1.2.1).mono ?_
              rintro e v1 ⟨g1, n1, c1, rfl, q1, q2, q3, q4⟩
              have H1 : Hid (HQ w v1 p ga k n c r L ∧ Rn v1 g1 c1 2 (es L2) 38 ∧ u0.heap.size ≤ g1 ∧ Blk v1 X [.int .i64 0, .int .i64 id, .int .i64 tm] 30 ∧ L2.length = n1 ∧ u0.heap.size ≤ v1.heap.size) := Lib.hid ⟨H0.out.1.1.below q4, q1, q3, H0.out.2.below q4 H0.out.2.lt, q2, q4.size⟩
              have y1 := H1.out.2.2.2.1.cell (i := 1) rfl
              have y2 := H1.out.2.2.2.1.cell (i := 2) rfl
              clear q1 q2 q3 q4
              go_wp2_with fail
              refine (he_set2 p ga k n c r L id tm HL2.out.2 htm L2 HL2.out.1 v1 H1.out.1.1).mono ?_
              rintro e v2 ⟨n2, c2, r2, rfl, k1, k2, k3⟩
              obtain rfl : n1 = n2 := by rw [← H1.out.2.2.2.2.1, k1.len]
              have H2 : Hid (SH w v2 p ga k n1 c2 r2 L2 g1 0 ∧ n1 ≤ c1 ∧ c1 ≤ 9223372036854775807) := Lib.hid (by
                have h1 := H0.out.1.1.1.o.lt; have h2 := H0.out.1.1.1.a.lt; have h3 := H0.out.1.1.1.m.lt; have h4 := H1.out.2.2.1; have h5 := H1.out.2.1.lt
                have hcap : n1 ≤ c1 ∧ c1 ≤ 9223372036854775807 := by
                  have h := H1.out.2.1.len
                  rw [es_length, H1.out.2.2.2.2.1] at h
                  obtain ⟨_, _, h6, _⟩ := H1.out.2.1
                  exact ⟨by omega, h6⟩
                refine ⟨⟨H1.out.1.step k1 k2 k3, (H1.out.2.1.chg k3 (by simp; exact ⟨by omega, by omega, fun h => by have := h3 _ h; omega⟩)).ea, fun x hx => ?_⟩, hcap⟩
                rw [rvB_some] at hx
                simp at hx ⊢
                subst hx
                refine ⟨by omega, by omega, fun h => ?_⟩
                rcases k2 _ h with h6 | h6
                · have := h3 _ h6; omega
                · omega)
              clear k1 k2 k3
              go_wp2
              go_meet
              exact ⟨n1, c2, r2, L2, g1, 0, c1, rfl, H2.out.2.1, H2.out.2.2, Lib.hid H2.out.1⟩
            · have HN := Lib.hid hin
              clear hin
              go_wp2_with (first
                | (go_at_call 16; refine (rf_set_no n cc (k : Int) _ id tm HN.out _).mono ?_; rintro e v1 ⟨rfl, rfl⟩)
                | (go_at_call 17; refine (he_set_no p ga k n c r L id tm HN.out _ H0.out.1.1.1).mono ?_; rintro e v1 ⟨rfl, rfl⟩))
              go_meet
              exact ⟨n, c, r, L, g, o, cc, rfl, hLc, hcc, Lib.hid H0.out.1⟩
          · by_cases k1 : kd = 1
            · subst k1
              have y1 := H0.out.2.cell (i := 1) rfl
              obtain ⟨L2, hL2⟩ : ∃ L2, He.cut L id = L2 := ⟨_, rfl⟩
              have HL2 := Lib.hid hL2
              clear hL2
              by_cases hat : He.at L id = 9223372036854775807
              · have HF : Hid (He.find L id = -1) := Lib.hid (find_not H0.out.1.1.1.ok hat)
                have HB : Hid (decide (He.at L id ≠ 9223372036854775807) = false) := Lib.hid (by simp [hat])
                clear hat
                go_wp2_with fail
                go_region_law (first
                  | (rw [if_pos (by simp [Region.wanted])]
                     unfold Oper.wp
                     go_simp
                     go_at_call 18
                     refine (he_cut p ga k n c r L id L2 HL2.out false HB.out _ H0.out.1.1.1.drew).mono ?_
                     rintro e v1 ⟨n1, rfl, q1, q2⟩
                     have H1 : Hid (HQ w v1 p ga k n1 c r L2 ∧ EA v1 (some ⟨g, o, none⟩) L ∧ Blk v1 X [.int .i64 1, .int .i64 id, .int .i64 tm] 30 ∧ Chg (p :: ga :: rvB r) u0.drew v1) := Lib.hid ⟨(H0.out.1.1.below (Below.refl _ _).drew).step q1 (fun g hg => Or.inl hg) q2, H0.out.1.2.1.drew.chg q2 H0.out.1.2.2, H0.out.2.drew.chg q2 HX.out, q2⟩
                     have x1 := H1.out.2.2.1.cell (i := 1) rfl
                     clear q1 q2)
                  | (rw [if_pos (by simp [Region.wanted])]
                     unfold Oper.wp
                     go_simp
                     go_at_call 19
                     refine (rf_find5 L n cc H0.out.1.1.1.len (by omega) _ id _ (by first | exact H1.out.2.1 | exact H0.out.1.2.1.drew)).mono ?_
                     rintro e v2 ⟨rfl, rfl⟩
                     rw [HF.out]))
                all_goals
                  go_wp2_with fail
                  refine (rf_cut5 L n cc H0.out.1.1.1.len (by omega) _ id _ H1.out.2.1).mono ?_
                  rintro e v3 ⟨g1, n3, c1, rfl, q1, q2, q3, q4⟩
                  rw [HL2.out] at q1 q2
                  obtain rfl : n3 = n1 := by rw [← q2, H1.out.1.1.len]
                  have H2 : Hid (SH w v3 p ga k n3 c r L2 g1 0 ∧ n3 ≤ c1 ∧ c1 ≤ 9223372036854775807) := Lib.hid (by
                    have h1 := H1.out.1.1.o.lt; have h2 := H1.out.1.1.a.lt; have h3 := H1.out.1.1.m.lt
                    have hcap : n3 ≤ c1 ∧ c1 ≤ 9223372036854775807 := by
                      have h := q1.len
                      rw [es_length, q2] at h
                      obtain ⟨_, _, h6, _⟩ := q1
                      exact ⟨by omega, h6⟩
                    refine ⟨⟨H1.out.1.below q4, q1.ea, fun x hx => ?_⟩, hcap⟩
                    rw [rvB_some] at hx
                    simp at hx ⊢
                    subst hx
                    exact ⟨by omega, by omega, fun h => by have := h3 _ h; omega⟩)
                  clear q1 q2 q3 q4
                  go_wp2
                  go_meet
                  exact ⟨n3, c, r, L2, g1, 0, c1, rfl, H2.out.2.1, H2.out.2.2, Lib.hid H2.out.1⟩
              · obtain ⟨i, hfi, hi⟩ := find_mem H0.out.1.1.1.ok hat
                have hge : decide ((0 : Int) ≤ (i : Int)) = true := by simp
                clear hi
                have HF : Hid (He.find L id = (i : Int)) := Lib.hid (hfi)
                have HB : Hid (decide (He.at L id ≠ 9223372036854775807) = true) := Lib.hid (by simp [hat])
                clear hat
                go_wp2_with fail
                go_region_law (first
                  | (rw [if_pos (by simp [Region.wanted])]
                     unfold Oper.wp
                     go_simp
                     go_at_call 18
                     refine (he_cut p ga k n c r L id L2 HL2.out true HB.out _ H0.out.1.1.1.drew).mono ?_
                     rintro e v1 ⟨n1, rfl, q1, q2⟩
                     have H1 : Hid (HQ w v1 p ga k n1 c r L2 ∧ EA v1 (some ⟨g, o, none⟩) L ∧ Blk v1 X [.int .i64 1, .int .i64 id, .int .i64 tm] 30 ∧ Chg (p :: ga :: rvB r) u0.drew v1) := Lib.hid ⟨(H0.out.1.1.below (Below.refl _ _).drew).step q1 (fun g hg => Or.inl hg) q2, H0.out.1.2.1.drew.chg q2 H0.out.1.2.2, H0.out.2.drew.chg q2 HX.out, q2⟩
                     have x1 := H1.out.2.2.1.cell (i := 1) rfl
                     clear q1 q2)
                  | (rw [if_pos (by simp [Region.wanted])]
                     unfold Oper.wp
                     go_simp
                     go_at_call 19
                     refine (rf_find5 L n cc H0.out.1.1.1.len (by omega) _ id _ (by first | exact H1.out.2.1 | exact H0.out.1.2.1.drew)).mono ?_
                     rintro e v2 ⟨rfl, rfl⟩
                     rw [HF.out]))
                all_goals
                  go_wp2_with fail
                  refine (rf_cut5 L n cc H0.out.1.1.1.len (by omega) _ id _ H1.out.2.1).mono ?_
                  rintro e v3 ⟨g1, n3, c1, rfl, q1, q2, q3, q4⟩
                  rw [HL2.out] at q1 q2
                  obtain rfl : n3 = n1 := by rw [← q2, H1.out.1.1.len]
                  have H2 : Hid (SH w v3 p ga k n3 c r L2 g1 0 ∧ n3 ≤ c1 ∧ c1 ≤ 9223372036854775807) := Lib.hid (by
                    have h1 := H1.out.1.1.o.lt; have h2 := H1.out.1.1.a.lt; have h3 := H1.out.1.1.m.lt
                    have hcap : n3 ≤ c1 ∧ c1 ≤ 9223372036854775807 := by
                      have h := q1.len
                      rw [es_length, q2] at h
                      obtain ⟨_, _, h6, _⟩ := q1
                      exact ⟨by omega, h6⟩
                    refine ⟨⟨H1.out.1.below q4, q1.ea, fun x hx => ?_⟩, hcap⟩
                    rw [rvB_some] at hx
                    simp at hx ⊢
                    subst hx
                    exact ⟨by omega, by omega, fun h => by have := h3 _ h; omega⟩)
                  clear q1 q2 q3 q4
                  go_wp2
                  go_meet
                  exact ⟨n3, c, r, L2, g1, 0, c1, rfl, H2.out.2.1, H2.out.2.2, Lib.hid H2.out.1⟩
            · by_cases k2 : kd = 2
              · subst k2
                have HEN := Lib.hid H0.out.1.1.1.len
                cases L with
                | nil =>
                  obtain rfl : n = 0 := HEN.out.symm
                  go_wp2_with fail
                  refine (he_pop_none p ga k 0 c r _ H0.out.1.1.1).mono ?_
                  rintro e v1 ⟨rfl, b1⟩
                  obtain ⟨n1, hn1⟩ : ∃ n1, n1 = 0 := ⟨_, rfl⟩
                  have H1 : Hid (Blk (v1.alloc (.cells #[.int .i64 0, .int .i64 0] 38)) v1.heap.size [.int .i64 0, .int .i64 0] 38 ∧ SH w (v1.alloc (.cells #[.int .i64 0, .int .i64 0] 38)) p ga k n1 c r [] g o ∧ EA (v1.alloc (.cells #[.int .i64 0, .int .i64 0] 38)) (some ⟨g, o, none⟩) []) := Lib.hid (by
                    have q0 := (Below.refl v1.heap.size v1).alloc (Nat.le_refl _) (.cells #[.int .i64 0, .int .i64 0] 38)
                    rw [hn1]
                    have h := (H0.out.1.below b1).below q0
                    exact ⟨Blk.newA v1 _ _, h, h.2.1⟩)
                  clear b1
                  have HN1 := Lib.hid hn1
                  clear hn1
                  go_wp2_with fail
                  revert H1
                  generalize (v1.alloc (.cells #[.int .i64 0, .int .i64 0] 38)) = v2
                  generalize v1.heap.size = Y
                  intro H1
                  refine wp_region_class (fun w' => Blk w' Y [.int .i64 0, .int .i64 0] 38 ∧ SH w w' p ga k n1 c r [] g o ∧ EA w' (some ⟨g, o, none⟩) []) (by kernel_rfl) (by kernel_rfl) ⟨H1.out.1.drew, H1.out.2.1.below (Below.refl _ _).drew, H1.out.2.2.drew⟩ ?_
                  repeat (first
                      | go_big_quiet_skip
                      | (go_big_quiet_want
                         unfold Oper.quiet
                         apply Exists.intro
                         refine ⟨fun wq hwq => ?_, ?_⟩
                         · (obtain ⟨hq1, hq2, hq3⟩ := hwq
                            have e1 := hq1.cell (i := 0) rfl
                            have e2 := hq1.cell (i := 1) rfl

                            unfold Oper.quietAt
                            go_simp
                            first
                              | exact ⟨rfl, hq1, hq2, hq3⟩
                              | exact rfl)
                         simp only [Act.put, List.setIfInBounds_toArray, List.set_cons_zero, List.set_cons_succ]
                         go_big_quiet_on))
                  refine wpQuiet_nil ?_
                  intro v4 hv4
                  have H4 := Lib.hid hv4
                  clear hv4
                  go_wp2
                  go_meet
                  exact ⟨0, c, r, [], g, o, cc, rfl, hLc, hcc, Lib.hid (by have h := H4.out.2.1; rw [HN1.out] at h; exact h)⟩
                | cons x Ls =>
                  obtain ⟨x1, x2⟩ := x
                  obtain ⟨L, hL⟩ : ∃ L, (x1, x2) :: Ls = L := ⟨_, rfl⟩
                  rw [hL] at H0 HEN
                  have hx0 : L[0]? = some (x1, x2) := by rw [← hL]; rfl
                  have hn0 : 0 < n := by rw [← HEN.out, ← hL]; simp
                  have hnI : (0 : Int) < (n : Int) := by omega
                  have hd1 : L.drop 1 = Ls := by rw [← hL]; rfl
                  have HX0 := Lib.hid (And.intro hx0 (And.intro hL.symm hd1))
                  have hc1I : (1 : Int) ≤ (n : Int) := by omega
                  have hc2I : (1 : Int) ≤ (cc : Int) := by omega
                  have hc1N : 1 ≤ n := by omega
                  have hc2N : 1 ≤ cc := by omega
                  clear hx0 hL hd1
                  go_wp2_with fail
                  refine (he_pop_some p ga k n c r L Ls x1 x2 HX0.out.2.1 _ H0.out.1.1.1).mono ?_
                  rintro e v1 ⟨n1, rfl, q1, q2⟩
                  have H1 : Hid (Blk (v1.alloc (.cells #[.int .i64 x1, .int .i64 x2] 38)) v1.heap.size [.int .i64 x1, .int .i64 x2] 38 ∧ HQ w (v1.alloc (.cells #[.int .i64 x1, .int .i64 x2] 38)) p ga k n1 c r Ls ∧ EA (v1.alloc (.cells #[.int .i64 x1, .int .i64 x2] 38)) (some ⟨g, o, none⟩) L) := Lib.hid (by
                    have q0 := (Below.refl v1.heap.size v1).alloc (Nat.le_refl _) (.cells #[.int .i64 x1, .int .i64 x2] 38)
                    exact ⟨Blk.newA v1 _ _, (H0.out.1.1.step q1 (fun g hg => Or.inl hg) q2).below q0, (H0.out.1.2.1.chg q2 H0.out.1.2.2).below q0⟩)
                  clear q1 q2
                  go_wp2_with fail
                  revert H1
                  generalize (v1.alloc (.cells #[.int .i64 x1, .int .i64 x2] 38)) = v2
                  generalize v1.heap.size = Y
                  intro H1
                  refine wp_region_class (fun w' => Blk w' Y [.int .i64 x1, .int .i64 x2] 38 ∧ HQ w w' p ga k n1 c r Ls ∧ EA w' (some ⟨g, o, none⟩) L) (by kernel_rfl) (by kernel_rfl) ⟨H1.out.1.drew, H1.out.2.1.below (Below.refl _ _).drew, H1.out.2.2.drew⟩ ?_
                  repeat (first
                      | go_big_quiet_skip
                      | (go_big_quiet_want
                         unfold Oper.quiet
                         apply Exists.intro
                         refine ⟨fun wq hwq => ?_, ?_⟩
                         · (obtain ⟨hq1, hq2, hq3⟩ := hwq
                            have e1 := hq1.cell (i := 0) rfl
                            have e2 := hq1.cell (i := 1) rfl
                            have d0 := (EA.c0 hq3 HX0.out.1 rfl).1
                            have d1 := (EA.c0 hq3 HX0.out.1 rfl).2
                            unfold Oper.quietAt
                            go_simp
                            first
                              | exact ⟨rfl, hq1, hq2, hq3⟩
                              | exact rfl)
                         simp only [Act.put, List.setIfInBounds_toArray, List.set_cons_zero, List.set_cons_succ]
                         go_big_quiet_on))
                  refine wpQuiet_nil ?_
                  intro v4 hv4
                  have H4 := Lib.hid hv4
                  clear hv4
                  obtain ⟨o2, hAD⟩ : ∃ o2, (if cc = 1 then (some ⟨g, o, none⟩ : Option Addr) else some ⟨g, o + 2, none⟩) = some ⟨g, o2, none⟩ := by
                    by_cases h : cc = 1
                    · exact ⟨o, by rw [if_pos h]⟩
                    · exact ⟨o + 2, by rw [if_neg h]⟩
                  have H5 : Hid (SH w v4 p ga k n1 c r Ls g o2 ∧ n1 = n - 1) := Lib.hid (by
                    have h := H4.out.2.2.dropc (cc := cc) (d := 1) (by rw [HEN.out]; omega) hAD
                    rw [HX0.out.2.2] at h
                    exact ⟨⟨H4.out.2.1, h, H0.out.1.2.2⟩, by have h2 := H4.out.2.1.1.len; have h3 := HEN.out; rw [HX0.out.2.1] at h3; simp at h3; omega⟩)
                  clear H4
                  go_wp2
                  go_meet
                  exact ⟨n1, c, r, Ls, g, o2, (cc - 1), by rw [H5.out.2], (by have := H5.out.2; omega), (by omega), Lib.hid H5.out.1⟩
              · by_cases k3 : kd = 3
                · subst k3
                  have y2 := H0.out.2.cell (i := 2) rfl
                  have hl63 : ∀ x ∈ L, x.1 ≤ 9223372036854775807 := fun x hx => by have := (H0.out.1.1.1.ok.rng x hx).2.2.2; omega
                  obtain ⟨d, hd⟩ : ∃ d, (L.takeWhile (fun x => Tk.dueB x.1 tm)).length = d := ⟨_, rfl⟩
                  have hdn : d ≤ n := by rw [← hd, ← H0.out.1.1.1.len]; exact tw_le _ L
                  have HD := Lib.hid (And.intro hd hl63)
                  have d0 : (0 : Int) ≤ (d : Int) := by omega
                  have d1 : (d : Int) ≤ (n : Int) := by omega
                  have d2 : (d : Int) ≤ (cc : Int) := by omega
                  have d3 : d ≤ cc := by omega
                  clear hd hl63
                  go_wp2_with fail
                  refine (rf_due5 L n cc H0.out.1.1.1.len (by omega) HD.out.2 _ tm htm d HD.out.1 _ H0.out.1.2.1).mono ?_
                  rintro e v0 ⟨rfl, rfl⟩
                  go_wp2_with fail
                  go_region_law (first
                    | (rw [if_pos (by simp [Region.wanted])]
                       unfold Oper.wp
                       go_simp
                       go_at_call 24
                       refine (he_due p ga k n c r L tm htm d HD.out.1 _ H0.out.1.1.1.drew).mono ?_
                       rintro e v1 ⟨n1, rD, cD, rfl, q0, q1, q2⟩
                       have H1 : Hid (HQ w v1 p ga k n1 c r (L.drop d) ∧ EA v1 (some ⟨g, o, none⟩) L ∧ EA v1 rD (L.take d) ∧ (L.take d).length = d) := Lib.hid ⟨(H0.out.1.1.below (Below.refl _ _).drew).step q1 (fun g hg => Or.inl hg) q2, H0.out.1.2.1.drew.chg q2 H0.out.1.2.2, EA.of_rm q0, by rw [List.length_take, H0.out.1.1.1.len]; omega⟩
                       clear q0 q1 q2)
                    | (rw [if_pos (by simp [Region.wanted])]
                       unfold Oper.wp
                       go_simp
                       go_at_call 23
                       refine (rf_same5 (L.take d) (L.take d) d cD d cc H1.out.2.2.2 H1.out.2.2.2 (by omega) rD _ true (by simp) _ H1.out.2.2.1 (H1.out.2.1.takec d)).mono ?_
                       rintro e v2 ⟨rfl, b2⟩
                       have H2 : Hid (HQ w v2 p ga k n1 c r (L.drop d) ∧ EA v2 (some ⟨g, o, none⟩) L) := Lib.hid ⟨H1.out.1.below b2, H1.out.2.1.below b2⟩
                       clear b2))
                  all_goals
                    obtain ⟨o2, hAD⟩ : ∃ o2, (if cc = d then (some ⟨g, o, none⟩ : Option Addr) else some ⟨g, o + d * 2, none⟩) = some ⟨g, o2, none⟩ := by
                      by_cases h : cc = d
                      · exact ⟨o, by rw [if_pos h]⟩
                      · exact ⟨o + d * 2, by rw [if_neg h]⟩
                    have H5 : Hid (SH w v2 p ga k n1 c r (L.drop d) g o2 ∧ n1 = n - d) := Lib.hid ⟨⟨H2.out.1, H2.out.2.dropc (cc := cc) (d := d) (by rw [H0.out.1.1.1.len]; omega) hAD, H0.out.1.2.2⟩, by have h2 := H2.out.1.1.len; rw [List.length_drop, H0.out.1.1.1.len] at h2; exact h2.symm⟩
                    clear H2 H1
                    go_wp2
                    go_meet
                    exact ⟨n1, c, r, (L.drop d), g, o2, (cc - d), by rw [H5.out.2], (by have := H5.out.2; omega), (by omega), Lib.hid H5.out.1⟩
                · go_wp2
                  go_meet
                  exact ⟨n, c, r, L, g, o, cc, rfl, hLc, hcc, Lib.hid H0.out.1⟩
        case rest =>
          clear H0 HX hLc hcc hn6
          obtain ⟨n, c, r, L, g, o, cc, rfl, hLc, hcc, HQ1⟩ := hcut
          go_wp2_with (go_at_call 15; refine (told5 p ga k n c r L _ cc a2 _ HQ1.out.1.1 HQ1.out.2.1).mono ?_; rintro e v9 ⟨rfl, b9⟩; have HQ2 := Lib.hid (HQ1.out.below b9); clear b9 HQ1)
          refine ⟨?_, ?measure⟩
          case measure => simp [intOf]; omega
          first
            | exact ⟨j + 1, n, c, r, L, g, o, cc, rfl, by go_num, by omega, by omega, hLc, hcc, HQ2⟩
            | ((repeat apply Exists.intro); exact ⟨⟨j + 1, n, c, r, L, g, o, cc, rfl, by go_num, by omega, by omega, hLc, hcc, HQ2⟩, rfl⟩)
      · go_wp2_with (go_at_call 25; refine (he_lives _).mono ?_; rintro e w9 ⟨rfl, hb⟩)
        go_ret
        exact ⟨rfl, HS.out.1.2.1.trans (Below.mono (by assumption) HS.out.1.2.1.size)⟩
    · go_wp2_with (go_at_call 25; refine (he_lives _).mono ?_; rintro e w9 ⟨rfl, hb⟩)
      go_ret
      exact ⟨rfl, HS.out.1.2.1.trans (Below.mono (by assumption) HS.out.1.2.1.size)⟩

set_option maxRecDepth 100000 in
theorem lifted (os : Os) (started : os.Started) (H : Type) (enc : TypeId × Value → H) :
    ReturnsInHanded {} Try.checked os 3 .any (Rows.heapPlaysSpec.pre6 enc Try.prog Try.f3 Rows.heapPlaysRow.domain false) (Rows.heapPlaysSpec.post enc Try.prog Try.f3 false true false false) := by
  refine returnsInHanded_of_change (C := Try.checked) ownKn started (by kernel_rfl) Try.func3
    (ChangeSpec.witness6 (enc := enc) (C := Try.checked) false ⟨#[], #[.int .i64 0, .slice none 0 0, .int .i64 0], []⟩ 8 (by kernel_rfl) (by kernel_rfl) (by kernel_rfl) (by kernel_rfl)) ?_
  intro W base args ds gs before hval0 hW hcnd _
  have hval : ∀ (j : Nat) t v, Try.f3.params[j]? = some t → args[j]? = some v → Value.okWide Try.prog W .any base t v := hval0
  have hW' := hW
  obtain ⟨p, q, hA0, hV, rfl, hfz, hnd⟩ := hW
  have hA : DataW.TrodAll enc Try.prog W 0 (fun _ => true) true Try.f3.params.toList args.toList ds p := hA0
  rw [Try.params3] at hA hval
  obtain ⟨v0, vs0, d0, ds0, p0, q0, hargs, rfl, rfl, h0, r0⟩ := trodAll_cons hA
  obtain ⟨v1, vs1, d1, ds1, p1, q1, rfl, rfl, rfl, h1, r1⟩ := trodAll_cons r0
  obtain ⟨v2, vs2, d2, ds2, p2, q2, rfl, rfl, rfl, h2, r2⟩ := trodAll_cons r1
  obtain ⟨rfl, rfl, rfl⟩ := trodAll_nil r2
  obtain rfl : args = #[v0, v1, v2] := by cases args; simp_all
  obtain ⟨rfl, rfl⟩ := trodVars_none hV
  have k0 := h0
  have lt0 : ∀ x ∈ p0, x.block < W.heap.size := by obtain ⟨m, hm⟩ := k0; exact DataW.trod_lt m _ _ _ hm
  obtain ⟨a0, rfl, rfl, rfl, w0⟩ := open_int Try.underlying3 (hval 0 3 v0 rfl rfl) h0
  have k1 := h1
  have lt1 : ∀ x ∈ p1, x.block < W.heap.size := by obtain ⟨m, hm⟩ := k1; exact DataW.trod_lt m _ _ _ hm
  obtain ⟨b1, lb1, cb1, rfl⟩ := okWide_slice Try.underlying22 (hval 1 22 v1 rfl rfl)
  obtain ⟨fu1, hf1⟩ := h1
  simp only [Value.cells] at hf1
  obtain ⟨a1, len1, cap1, e1, w1⟩ := fld_recs (k := .i64) Try.underlying22 Try.underlying30 (by kernel_rfl) (by kernel_rfl) (by intro j f h; obtain rfl | rfl | rfl | hj : j = 0 ∨ j = 1 ∨ j = 2 ∨ 3 ≤ j := (by omega); all_goals (first | (simp at h; subst h; exact Try.underlying2) | (simp at h; subst h; exact Try.underlying3) | (rw [Array.getElem?_eq_none (by simpa using hj)] at h; cases h))) (by decide) hf1
  obtain ⟨rfl, rfl, rfl⟩ : b1 = a1 ∧ lb1 = len1 ∧ cb1 = cap1 := by simpa using e1
  have k2 := h2
  have lt2 : ∀ x ∈ p2, x.block < W.heap.size := by obtain ⟨m, hm⟩ := k2; exact DataW.trod_lt m _ _ _ hm
  obtain ⟨a2, rfl, rfl, rfl, w2⟩ := open_int Try.underlying3 (hval 2 3 v2 rfl rfl) h2
  clear hA0 hval0
  refine (walk a0 b1 lb1 cb1 a2 W w0 w1 w2).mono fun e W' ⟨he, bel⟩ => ?_
  subst he
  exact ⟨_, rfl, _, _, _, [], _, [], hW', trodAll_mk1 (shut_bool Try.underlying4 _), (trodAll_cons_mk (Below.trod laidOut (by kernel_rfl) (of_decide_eq_true (by kernel_rfl)) k0 bel lt0) (trodAll_cons_mk (Below.trod laidOut (by kernel_rfl) (of_decide_eq_true (by kernel_rfl)) k1 bel lt1) (trodAll_cons_mk (Below.trod laidOut (by kernel_rfl) (of_decide_eq_true (by kernel_rfl)) k2 bel lt2) trodAll_mk0))), rfl, bel.frame _, fun h => by cases h⟩

theorem over : Rows.heapPlaysRow.holds Try.pinned (OpenSpec.ofChange Rows.heapPlaysSpec) :=
  OpenClaim.holds_of_wide 3 Try.f3 rfl rfl rfl rfl rfl rfl rfl ⟨rfl, rfl, rfl, rfl, rfl⟩ rfl rfl rfl rfl rfl (by kernel_rfl) Try.func3 (by kernel_rfl)
    (of_decide_eq_true (by kernel_rfl)) (by unfold Func.isWrapper; first | (rw [if_pos (by decide +kernel)]; kernel_rfl) | (rw [if_neg (by decide +kernel)]; exact ⟨rfl, rfl⟩))
    (fun os started H enc _ => lifted os started H enc)

/-- The statement. -/
theorem proved : Rows.HeapPlaysSaid := over
#print axioms proved
end Go.Proofs.Ytbdjcppkfihonaa.heapPlays
