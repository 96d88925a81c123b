/- P5.3: for every list of ticks: whatever deadlines are set, and set anew, Pop tells the last ones in order. No condition. -/
import Derived.Test.YtbdjcppkfihonaaOpen
import Derived.WalkKit
import Derived.ProofKit
import Derived.OpenShut
import Derived.Test.YtbdjcppkfihonaaHe21
namespace Go.Proofs.Ytbdjcppkfihonaa.heapSorts
open Go.Joins Go.ChangeShapes Go.WideShapes Go.ChangeAt Go.RowKit Go.Deep
open Go.ChangeMaps (open_string)
set_option linter.unusedSimpArgs false
set_option linter.unusedVariables false

set_option maxRecDepth 100000 in
set_option maxHeartbeats 8000000 in

theorem walk (a0 : Option Addr) (len0 cap0 : Nat) (z0 : List Int) (w : World) (w0 : IsRow .i64 w a0 len0 cap0 z0) :
    Calls Try.prog 4 #[.slice a0 len0 cap0] w fun e w' => e = .returned (.bool true) ∧ Below w.heap.size w w' := by
  obtain ⟨hzl, hlc, hcm, hnil, hwz, hcell⟩ := w0
  unfold maxLen at hcm
  obtain ⟨A, hAdef⟩ : ∃ A : Nat → Int, A = fun i => z0.getD i 0 := ⟨_, rfl⟩
  have HCELL : Hid (0 < len0 → ∃ b off, a0 = some ⟨b, off, none⟩ ∧ b < w.heap.size ∧ ∀ i, i < len0 → w.cell? ⟨b, off + i, none⟩ = some (.int .i64 (A i))) := Lib.hid (by rw [hAdef]; exact hcell)
  have HA : Hid (∀ i, A i ≤ 9223372036854775807) := Lib.hid (fun i => by
    rw [hAdef]
    show z0.getD i 0 ≤ _
    rw [List.getD_eq_getElem?_getD]
    cases hi : z0[i]? with
    | none => simp
    | some x => exact (bounds_i64 (hwz x (List.mem_of_getElem? hi))).2)
  clear hcell hnil hwz hzl hAdef
  go_enter Try.func4, Try.ntmps4
  go_wp2_with fail
  refine (he_new 16 16 (by decide) w).mono ?_
  rintro e W1 ⟨rfl, k1, k2⟩
  have H1 : Hid (HQ w (W1.alloc (.cells #[] 38)) (w.heap.size + 1) w.heap.size 16 0 0 none [] ∧ EA (W1.alloc (.cells #[] 38)) (some ⟨W1.heap.size, 0, none⟩) [] ∧ (∀ g ∈ rvB (some ⟨W1.heap.size, 0, none⟩), g ∉ ((w.heap.size + 1) :: w.heap.size :: rvB none))) := Lib.hid (by
    have q0 := (Below.refl W1.heap.size W1).alloc (Nat.le_refl _) (.cells #[] 38)
    have h0 : HQ w W1 (w.heap.size + 1) w.heap.size 16 0 0 none [] := ⟨k1, k2, by omega, by omega, by simp [rvB]⟩
    have h1 := k1.o.lt
    have h2 := k1.a.lt
    refine ⟨h0.below q0, ⟨?_, fun j x1 x2 h => by simp at h⟩, ?_⟩
    · intro g hg; rw [rvB_some] at hg; simp at hg ⊢; omega
    · intro g hg; rw [rvB_some] at hg; simp [rvB] at hg ⊢; omega)
  clear k1 k2
  go_wp2_with fail
  revert H1
  generalize (W1.alloc (.cells #[] 38)) = W1b
  generalize w.heap.size + 1 = p
  generalize W1.heap.size = G1
  intro H1
  go_loopw [4, 5] (fun lv iv wr => ∃ (j n c : Nat) (r : Option Addr) (L : List (Int × Int)) (a : Option Addr) (cc : Nat), lv = .slice a n cc ∧ iv = .int .i64 j ∧ j ≤ 60 ∧ j ≤ len0 ∧ Hid (HQ w wr p w.heap.size 16 n c r L ∧ EA wr a L ∧ (∀ g ∈ rvB a, g ∉ (p :: w.heap.size :: rvB r)))) (fun _ iv _ => 60 - (intOf iv).toNat)
  case atStart => exact ⟨0, 0, 0, none, [], _, 0, rfl, rfl, by omega, by omega, H1⟩
  case round =>
    clear H1
    obtain ⟨m, n, c, r, L, a, cc, rfl, rfl, hm, hml, H1⟩ := hrel
    have m0 : (0 : Int) ≤ (m : Int) := by omega
    have HOK : Hid (He.ok 16 L) := Lib.hid H1.out.1.1.ok
    by_cases hlt : m < len0
    · by_cases h60 : m < 60
      · have mI : (m : Int) < 60 := by omega
        have mL : (m : Int) < (len0 : Int) := by omega
        obtain ⟨bb, off, hab, hbl, hcl⟩ := HCELL.out (by omega)
        subst hab
        obtain ⟨z, hz⟩ : ∃ z, A m = z := ⟨_, rfl⟩
        have hcm := hcl m hlt
        rw [hz] at hcm
        have hy : wr.cell? ⟨bb, off + m, none⟩ = some (.int .i64 z) := by rw [H1.out.1.2.1.cell (by simpa using hbl)]; exact hcm
        have hzl : z ≤ 9223372036854775807 := by rw [← hz]; exact HA.out m
        obtain ⟨q, hq⟩ : ∃ q, m % 16 = q := ⟨_, rfl⟩
        have hq16 : q < 16 := by omega
        have hq1 : (m : Int) % 16 = (q : Int) := by omega
        have hq2 : (m : Int).tmod 16 = (q : Int) := by rw [Int.tmod_eq_emod_of_nonneg m0]; exact hq1
        have HCM := Lib.hid hcm
        have hq0 : (0 : Int) ≤ (q : Int) := by omega
        have hqI : (q : Int) < 16 := by omega
        clear hcl hz hcm hq
        go_wp2_with fail
        refine (he_set2 p w.heap.size 16 n c r L (q : Int) z ⟨by omega, by omega⟩ hzl _ rfl wr H1.out.1.1).mono ?_
        rintro e W2 ⟨n2, c2, r2, rfl, k1, k2, k3⟩
        obtain ⟨L2, hL2⟩ : ∃ L2, He.set L (q : Int) z = L2 := ⟨_, rfl⟩
        rw [hL2] at k1
        have HL2 := Lib.hid hL2
        have H2 : Hid (HQ w W2 p w.heap.size 16 n2 c2 r2 L2 ∧ EA W2 a L ∧ p < W2.heap.size ∧ w.heap.size < W2.heap.size) := Lib.hid ⟨H1.out.1.step k1 k2 k3, H1.out.2.1.chg k3 H1.out.2.2, k1.o.lt, k1.a.lt⟩
        have hy2 : W2.cell? ⟨bb, off + m, none⟩ = some (.int .i64 z) := (H2.out.1.2.1.cell (by simpa using hbl)).trans HCM.out
        have HLN : Hid (L.length = n ∧ n ≤ 16) := Lib.hid ⟨H1.out.1.1.len, H1.out.1.1.nk⟩
        clear k1 k2 k3 hy hL2 H1
        go_wp2_with fail
        refine (rf_set5 L n cc HLN.out.1 (by have := HLN.out.2; omega) 16 a (q : Int) z ⟨by omega, by omega⟩ hzl HOK.out.srt L2 HL2.out W2 H2.out.2.1).mono ?_
        rintro e W3 ⟨g, n3, c3, rfl, q1, q2, q3, q4⟩
        obtain rfl : n3 = n2 := by rw [← q2, H2.out.1.1.len]
        have H3 : Hid (HQ w W3 p w.heap.size 16 n3 c2 r2 L2 ∧ EA W3 (some ⟨g, 0, none⟩) L2 ∧ (∀ x ∈ rvB (some ⟨g, 0, none⟩), x ∉ (p :: w.heap.size :: rvB r2))) := Lib.hid (by
          refine ⟨H2.out.1.below q4, q1.ea, fun x hx => ?_⟩
          have h1 := H2.out.2.2.1; have h2 := H2.out.2.2.2; have h3 := H2.out.1.1.m.lt
          rw [rvB_some] at hx
          simp at hx ⊢
          subst hx
          exact ⟨by omega, by omega, fun h => by have := (h3 _ h).2; omega⟩)
        clear q1 q2 q3 q4
        go_wp2
        refine ⟨?_, ?measure⟩
        case measure => simp [intOf]; omega
        first
          | exact ⟨m + 1, n3, c2, r2, L2, _, c3, rfl, by go_num, by omega, by omega, H3⟩
          | ((repeat apply Exists.intro); exact ⟨⟨m + 1, n3, c2, r2, L2, _, c3, rfl, by go_num, by omega, by omega, H3⟩, rfl⟩)
      · have h60b : decide ((m : Int) < 60) = false := by simp; omega
        have hltb : (m : Int) < (len0 : Int) := by omega
        have hL16 := H1.out.1.1.ok.len
        have hnL := H1.out.1.1.len
        obtain ⟨B0, hB0⟩ : ∃ B0, wr.heap.size = B0 := ⟨_, rfl⟩
        have HB0 : Hid (p < B0 ∧ w.heap.size < B0 ∧ (∀ g ∈ rvB r, g < B0) ∧ (∀ g ∈ rvB a, g < B0) ∧ w.heap.size ≤ B0) := Lib.hid (by
          subst hB0
          exact ⟨H1.out.1.1.o.lt, H1.out.1.1.a.lt, fun g hg => (H1.out.1.1.m.lt g hg).2, H1.out.2.1.1, H1.out.1.2.1.size⟩)
        have hwB := HB0.out.2.2.2.2
        have hpB := HB0.out.1
        have hgB := HB0.out.2.1
        have H2 : Hid (HQ w (wr.alloc (.cells #[] 38)) p w.heap.size 16 n c r (L.drop 0) ∧ EA (wr.alloc (.cells #[] 38)) a L ∧ RM (wr.alloc (.cells #[] 38)) B0 (some ⟨wr.heap.size, 0, none⟩) 0 0 2 (es (L.take 0)) 38) := Lib.hid (by
          have q0 := (Below.refl wr.heap.size wr).alloc (Nat.le_refl _) (.cells #[] 38)
          rw [List.drop_zero]
          exact ⟨H1.out.1.below q0, H1.out.2.1.below q0, by simp [es], by simp; omega, Or.inr ⟨_, rfl, by omega, by simpa [es] using Rn.empty wr 2 38⟩⟩)
        have HDS := Lib.hid H1.out.2.2
        clear hB0
        go_wp2_with fail
        revert H2
        generalize (wr.alloc (.cells #[] 38)) = W2
        intro H2
        clear H1
        go_wp2_with fail
        go_loopw [6, 7] (fun ov iv wr => ∃ (j n' : Nat) (rO : Option Addr) (cO : Nat), ov = .slice rO j cO ∧ iv = .int .i64 j ∧ j ≤ L.length ∧ Hid (HQ w wr p w.heap.size 16 n' c r (L.drop j) ∧ EA wr a L ∧ RM wr B0 rO j cO 2 (es (L.take j)) 38)) (fun _ iv _ => 17 - (intOf iv).toNat)
        case atStart => exact ⟨0, n, _, 0, rfl, rfl, by omega, H2⟩
        case round =>
          clear H2
          obtain ⟨j, n', rO, cO, rfl, rfl, hjL, H2⟩ := hrel
          have j0 : (0 : Int) ≤ (j : Int) := by omega
          have j17 : (j : Int) < 17 := by omega
          by_cases hlt : j < L.length
          · obtain ⟨⟨x1, x2⟩, hx⟩ : ∃ x, L[j]? = some x := ⟨_, List.getElem?_eq_getElem hlt⟩
            have hdrop : L.drop j = (x1, x2) :: L.drop (j + 1) := by
              rw [List.drop_eq_getElem_cons hlt]
              rw [List.getElem?_eq_getElem hlt] at hx
              injection hx with hx
              rw [hx]
            have HTK : Hid (L.take (j + 1) = L.take j ++ [(x1, x2)]) := Lib.hid (by
              rw [List.take_succ_eq_append_getElem hlt]
              rw [List.getElem?_eq_getElem hlt] at hx
              injection hx with hx
              rw [hx])
            have HX := Lib.hid (And.intro hx hdrop)
            clear hx hdrop
            go_wp2_with fail
            refine (he_pop_some p w.heap.size 16 n' c r (L.drop j) (L.drop (j + 1)) x1 x2 HX.out.2 wr H2.out.1.1).mono ?_
            rintro e W4 ⟨n2, rfl, k1, k2⟩
            have H5 : Hid (HQ w (W4.alloc (.cells #[.int .i64 x1, .int .i64 x2] 38)) p w.heap.size 16 n2 c r (L.drop (j + 1)) ∧ EA (W4.alloc (.cells #[.int .i64 x1, .int .i64 x2] 38)) a L ∧ Blk (W4.alloc (.cells #[.int .i64 x1, .int .i64 x2] 38)) W4.heap.size [.int .i64 x1, .int .i64 x2] 38 ∧ RM (W4.alloc (.cells #[.int .i64 x1, .int .i64 x2] 38)) B0 rO j cO 2 (es (L.take j)) 38 ∧ True) := Lib.hid (by
              have q0 := (Below.refl W4.heap.size W4).alloc (Nat.le_refl _) (.cells #[.int .i64 x1, .int .i64 x2] 38)
              have hO := H2.out.2.2.lt
              have hB := HB0.out
              refine ⟨(H2.out.1.step k1 (fun g hg => Or.inl hg) k2).below q0, (H2.out.2.1.chg k2 HDS.out).below q0, Blk.newA W4 _ _, (H2.out.2.2.chg k2 (fun g hg => ?_)).chg (Chg.of_fresh (l := []) q0) (by simp), trivial⟩
              have := (hO g hg).1
              simp; exact ⟨by omega, by omega, fun h => by have := hB.2.2.1 g h; omega⟩)
            clear k1 k2
            go_wp2_with fail
            revert H5
            generalize hW5 : (W4.alloc (.cells #[.int .i64 x1, .int .i64 x2] 38)) = W5
            intro H5
            by_cases hj0 : j = 0
            · have hg0 : decide ((0 : Int) < (j : Int)) = false := by simp; omega
              have hg1 : ¬ 0 < j := by omega
              clear hW5 hj0
              refine wp_region_class (fun w' => Blk w' W4.heap.size [.int .i64 x1, .int .i64 x2] 38 ∧ RM w' B0 rO j cO 2 (es (L.take j)) 38 ∧ Chg [] W5 w') (by kernel_rfl) (by kernel_rfl) ⟨H5.out.2.2.1.drew, H5.out.2.2.2.1.chg (Chg.refl [] _).drew (by simp), (Chg.refl [] _).drew⟩ ?_
              repeat (first
                  | go_big_quiet_skip
                  | (go_big_quiet_want
                     unfold Oper.quiet
                     apply Exists.intro
                     refine ⟨fun wq hwq => ?_, ?_⟩
                     · (obtain ⟨hq1, hq2, hq3⟩ := hwq
                        have e1 := hq1.cell (i := 0) rfl
                        have e2 := hq1.cell (i := 1) rfl

                        unfold Oper.quietAt
                        go_simp
                        first
                          | exact ⟨rfl, hq1, hq2, hq3⟩
                          | exact rfl)
                     simp only [Act.put, List.setIfInBounds_toArray, List.set_cons_zero, List.set_cons_succ]
                     go_big_quiet_on))
              refine wpQuiet_nil ?_
              intro w6 hw6
              have H6 : Hid (HQ w w6 p w.heap.size 16 n2 c r (L.drop (j + 1)) ∧ EA w6 a L ∧ Blk w6 W4.heap.size [.int .i64 x1, .int .i64 x2] 38 ∧ RM w6 B0 rO j cO 2 (es (L.take j)) 38) := Lib.hid ⟨H5.out.1.step (H5.out.1.1.chg hw6.2.2 (by simp) (by simp) (by simp)) (fun g hg => Or.inl hg) (hw6.2.2.mono (by simp)), H5.out.2.1.chg hw6.2.2 (by simp), hw6.1, hw6.2.1⟩
              have z0 := H6.out.2.2.1.cell (i := 0) rfl
              have z1 := H6.out.2.2.1.cell (i := 1) rfl
              clear hw6
              go_wp2_with (at_builtin; refine wpList_append_rm _ rfl (.tmp 89) (.tmp 91) 25 25 rfl 38 (.agg #[.int .i64 0, .int .i64 0]) 2 16 Try.underlying25 infoE rfl B0 rO j cO (es (L.take j)) rfl (H6.out.2.2.2.chg (l := []) ((Chg.refl _ _).alloc _) (by simp)) _ rfl 1 (by omega) [.int .i64 x1, .int .i64 x2] (Src.ofSlice _ Try.underlying25 _ _ _ _ rfl (fun i u hi => by rw [Addr.add_lit, Nat.zero_add]; exact (Blk.newA w6 #[.int .i64 x1, .int .i64 x2] 38).cell hi) (by intro v hv; simp at hv; rcases hv with rfl | rfl <;> rfl)) (by omega) (by omega) ?_; intro g' c' w7 q1 q2 q3; rw [← es_snoc, ← HTK.out] at q1; have H7 : Hid (HQ w w7 p w.heap.size 16 n2 c r (L.drop (j + 1)) ∧ EA w7 a L ∧ RM w7 B0 (some ⟨g', 0, none⟩) (j + 1) c' 2 (es (L.take (j + 1))) 38) := Lib.hid (by
                have q0 := (Chg.refl [] w6).alloc (Obj.cells #[Value.int IntKind.i64 x1, Value.int IntKind.i64 x2] 38)
                have hO := H6.out.2.2.2.lt
                have hB := HB0.out
                refine ⟨⟨(H6.out.1.1.chg q0 (by simp) (by simp) (by simp)).chg q3 (fun h => by have := (hO _ h).1; omega) (fun h => by have := (hO _ h).1; omega) (fun g hg h => by have := (hO _ h).1; have := hB.2.2.1 g hg; omega), q3.onto (H6.out.1.2.1.alloc H6.out.1.2.1.size _) (by simp; have := H6.out.1.2.1.size; omega) (fun x hx => by have := (hO _ hx).1; omega), H6.out.1.2.2⟩, (H6.out.2.1.chg q0 (by simp)).chg q3 (fun g hg h => by have := (hO _ h).1; have := hB.2.2.2.1 g hg; omega), q1⟩); clear q1 q2 q3)
              all_goals
                refine ⟨?_, ?measure⟩
                case measure => simp [intOf]; omega
                first
                  | exact ⟨j + 1, n2, _, c', rfl, by go_num, by omega, H7⟩
                  | ((repeat apply Exists.intro); exact ⟨⟨j + 1, n2, _, c', rfl, by go_num, by omega, H7⟩, rfl⟩)
            · obtain ⟨i1, hi1⟩ : ∃ i1, j = i1 + 1 := ⟨j - 1, by omega⟩
              have hg0 : decide ((0 : Int) < (j : Int)) = true := by simp; omega
              have hg1 : 0 < j := by omega
              have hs1 : (j : Int) - 1 = (i1 : Int) := by omega
              have hs2 : IntKind.i64.wrap ((j : Int) - 1) = (i1 : Int) := by rw [IntWalk.i64_in _ (by omega)]; exact hs1
              have hs3 : (i1 : Int) < (j : Int) := by omega
              have hs4 : (0 : Int) ≤ (i1 : Int) := by omega
              have hs5 : i1 < j := by omega
              have hs6 : IntKind.i64.wrap (i1 : Int) = (i1 : Int) := IntWalk.i64_in _ (by omega)
              have hi1L : i1 < L.length := by omega
              obtain ⟨⟨y1, y2⟩, hy⟩ : ∃ y, L[i1]? = some y := ⟨_, List.getElem?_eq_getElem hi1L⟩
              have hcmp : He.cmp (y1, y2) (x1, x2) < 0 := by
                have hp := List.pairwise_iff_getElem.1 HOK.out.srt i1 j hi1L hlt (by omega)
                have hx := HX.out.1
                rw [List.getElem?_eq_getElem hlt] at hx
                rw [List.getElem?_eq_getElem hi1L] at hy
                injection hx with hx; injection hy with hy
                rw [hx, hy] at hp
                exact hp
              rw [cmp_lt] at hcmp
              dsimp only at hcmp
              have HY : Hid ((L.take j)[i1]? = some (y1, y2) ∧ True) := Lib.hid ⟨by rw [List.getElem?_take, if_pos (by omega)]; exact hy, trivial⟩
              obtain ⟨gO, hgO, _, _⟩ := H5.out.2.2.2.1.row hg1
              subst hgO
              have hd1 : decide (x1 < y1) = false := by simp; omega
              clear hy hi1 hW5
              by_cases he : y1 = x1
              · subst he
                have hd2 : decide (x2 ≤ y2) = false := by simp; omega
                have hd3 : (y1 == y1) = true := by simp
                clear hcmp
                refine wp_region_class (fun w' => Blk w' W4.heap.size [.int .i64 y1, .int .i64 x2] 38 ∧ RM w' B0 (some ⟨gO, 0, none⟩) j cO 2 (es (L.take j)) 38 ∧ Chg [] W5 w') (by kernel_rfl) (by kernel_rfl) ⟨H5.out.2.2.1.drew, H5.out.2.2.2.1.chg (Chg.refl [] _).drew (by simp), (Chg.refl [] _).drew⟩ ?_
                repeat (first
                    | go_big_quiet_skip
                    | (go_big_quiet_want
                       unfold Oper.quiet
                       apply Exists.intro
                       refine ⟨fun wq hwq => ?_, ?_⟩
                       · (obtain ⟨hq1, hq2, hq3⟩ := hwq
                          have e1 := hq1.cell (i := 0) rfl
                          have e2 := hq1.cell (i := 1) rfl
                          have d0 := hq2.rn.cell (es_get (L.take j) i1 y1 y2 HY.out.1).1
                          have d1 := hq2.rn.cell (es_get (L.take j) i1 y1 y2 HY.out.1).2
                          unfold Oper.quietAt
                          go_simp
                          first
                            | exact ⟨rfl, hq1, hq2, hq3⟩
                            | exact rfl)
                       simp only [Act.put, List.setIfInBounds_toArray, List.set_cons_zero, List.set_cons_succ]
                       go_big_quiet_on))
                refine wpQuiet_nil ?_
                intro w6 hw6
                have H6 : Hid (HQ w w6 p w.heap.size 16 n2 c r (L.drop (j + 1)) ∧ EA w6 a L ∧ Blk w6 W4.heap.size [.int .i64 y1, .int .i64 x2] 38 ∧ RM w6 B0 (some ⟨gO, 0, none⟩) j cO 2 (es (L.take j)) 38) := Lib.hid ⟨H5.out.1.step (H5.out.1.1.chg hw6.2.2 (by simp) (by simp) (by simp)) (fun g hg => Or.inl hg) (hw6.2.2.mono (by simp)), H5.out.2.1.chg hw6.2.2 (by simp), hw6.1, hw6.2.1⟩
                have z0 := H6.out.2.2.1.cell (i := 0) rfl
                have z1 := H6.out.2.2.1.cell (i := 1) rfl
                clear hw6
                go_wp2_with (at_builtin; refine wpList_append_rm _ rfl (.tmp 89) (.tmp 91) 25 25 rfl 38 (.agg #[.int .i64 0, .int .i64 0]) 2 16 Try.underlying25 infoE rfl B0 (some ⟨gO, 0, none⟩) j cO (es (L.take j)) rfl (H6.out.2.2.2.chg (l := []) ((Chg.refl _ _).alloc _) (by simp)) _ rfl 1 (by omega) [.int .i64 y1, .int .i64 x2] (Src.ofSlice _ Try.underlying25 _ _ _ _ rfl (fun i u hi => by rw [Addr.add_lit, Nat.zero_add]; exact (Blk.newA w6 #[.int .i64 y1, .int .i64 x2] 38).cell hi) (by intro v hv; simp at hv; rcases hv with rfl | rfl <;> rfl)) (by omega) (by omega) ?_; intro g' c' w7 q1 q2 q3; rw [← es_snoc, ← HTK.out] at q1; have H7 : Hid (HQ w w7 p w.heap.size 16 n2 c r (L.drop (j + 1)) ∧ EA w7 a L ∧ RM w7 B0 (some ⟨g', 0, none⟩) (j + 1) c' 2 (es (L.take (j + 1))) 38) := Lib.hid (by
                  have q0 := (Chg.refl [] w6).alloc (Obj.cells #[Value.int IntKind.i64 y1, Value.int IntKind.i64 x2] 38)
                  have hO := H6.out.2.2.2.lt
                  have hB := HB0.out
                  refine ⟨⟨(H6.out.1.1.chg q0 (by simp) (by simp) (by simp)).chg q3 (fun h => by have := (hO _ h).1; omega) (fun h => by have := (hO _ h).1; omega) (fun g hg h => by have := (hO _ h).1; have := hB.2.2.1 g hg; omega), q3.onto (H6.out.1.2.1.alloc H6.out.1.2.1.size _) (by simp; have := H6.out.1.2.1.size; omega) (fun x hx => by have := (hO _ hx).1; omega), H6.out.1.2.2⟩, (H6.out.2.1.chg q0 (by simp)).chg q3 (fun g hg h => by have := (hO _ h).1; have := hB.2.2.2.1 g hg; omega), q1⟩); clear q1 q2 q3)
                all_goals
                  refine ⟨?_, ?measure⟩
                  case measure => simp [intOf]; omega
                  first
                    | exact ⟨j + 1, n2, _, c', rfl, by go_num, by omega, H7⟩
                    | ((repeat apply Exists.intro); exact ⟨⟨j + 1, n2, _, c', rfl, by go_num, by omega, H7⟩, rfl⟩)
              · have hd3 : (y1 == x1) = false := by rw [beq_eq_false_iff_ne]; exact he
                clear hcmp he
                refine wp_region_class (fun w' => Blk w' W4.heap.size [.int .i64 x1, .int .i64 x2] 38 ∧ RM w' B0 (some ⟨gO, 0, none⟩) j cO 2 (es (L.take j)) 38 ∧ Chg [] W5 w') (by kernel_rfl) (by kernel_rfl) ⟨H5.out.2.2.1.drew, H5.out.2.2.2.1.chg (Chg.refl [] _).drew (by simp), (Chg.refl [] _).drew⟩ ?_
                repeat (first
                    | go_big_quiet_skip
                    | (go_big_quiet_want
                       unfold Oper.quiet
                       apply Exists.intro
                       refine ⟨fun wq hwq => ?_, ?_⟩
                       · (obtain ⟨hq1, hq2, hq3⟩ := hwq
                          have e1 := hq1.cell (i := 0) rfl
                          have e2 := hq1.cell (i := 1) rfl
                          have d0 := hq2.rn.cell (es_get (L.take j) i1 y1 y2 HY.out.1).1
                          have d1 := hq2.rn.cell (es_get (L.take j) i1 y1 y2 HY.out.1).2
                          unfold Oper.quietAt
                          go_simp
                          first
                            | exact ⟨rfl, hq1, hq2, hq3⟩
                            | exact rfl)
                       simp only [Act.put, List.setIfInBounds_toArray, List.set_cons_zero, List.set_cons_succ]
                       go_big_quiet_on))
                refine wpQuiet_nil ?_
                intro w6 hw6
                have H6 : Hid (HQ w w6 p w.heap.size 16 n2 c r (L.drop (j + 1)) ∧ EA w6 a L ∧ Blk w6 W4.heap.size [.int .i64 x1, .int .i64 x2] 38 ∧ RM w6 B0 (some ⟨gO, 0, none⟩) j cO 2 (es (L.take j)) 38) := Lib.hid ⟨H5.out.1.step (H5.out.1.1.chg hw6.2.2 (by simp) (by simp) (by simp)) (fun g hg => Or.inl hg) (hw6.2.2.mono (by simp)), H5.out.2.1.chg hw6.2.2 (by simp), hw6.1, hw6.2.1⟩
                have z0 := H6.out.2.2.1.cell (i := 0) rfl
                have z1 := H6.out.2.2.1.cell (i := 1) rfl
                clear hw6
                go_wp2_with (at_builtin; refine wpList_append_rm _ rfl (.tmp 89) (.tmp 91) 25 25 rfl 38 (.agg #[.int .i64 0, .int .i64 0]) 2 16 Try.underlying25 infoE rfl B0 (some ⟨gO, 0, none⟩) j cO (es (L.take j)) rfl (H6.out.2.2.2.chg (l := []) ((Chg.refl _ _).alloc _) (by simp)) _ rfl 1 (by omega) [.int .i64 x1, .int .i64 x2] (Src.ofSlice _ Try.underlying25 _ _ _ _ rfl (fun i u hi => by rw [Addr.add_lit, Nat.zero_add]; exact (Blk.newA w6 #[.int .i64 x1, .int .i64 x2] 38).cell hi) (by intro v hv; simp at hv; rcases hv with rfl | rfl <;> rfl)) (by omega) (by omega) ?_; intro g' c' w7 q1 q2 q3; rw [← es_snoc, ← HTK.out] at q1; have H7 : Hid (HQ w w7 p w.heap.size 16 n2 c r (L.drop (j + 1)) ∧ EA w7 a L ∧ RM w7 B0 (some ⟨g', 0, none⟩) (j + 1) c' 2 (es (L.take (j + 1))) 38) := Lib.hid (by
                  have q0 := (Chg.refl [] w6).alloc (Obj.cells #[Value.int IntKind.i64 x1, Value.int IntKind.i64 x2] 38)
                  have hO := H6.out.2.2.2.lt
                  have hB := HB0.out
                  refine ⟨⟨(H6.out.1.1.chg q0 (by simp) (by simp) (by simp)).chg q3 (fun h => by have := (hO _ h).1; omega) (fun h => by have := (hO _ h).1; omega) (fun g hg h => by have := (hO _ h).1; have := hB.2.2.1 g hg; omega), q3.onto (H6.out.1.2.1.alloc H6.out.1.2.1.size _) (by simp; have := H6.out.1.2.1.size; omega) (fun x hx => by have := (hO _ hx).1; omega), H6.out.1.2.2⟩, (H6.out.2.1.chg q0 (by simp)).chg q3 (fun g hg h => by have := (hO _ h).1; have := hB.2.2.2.1 g hg; omega), q1⟩); clear q1 q2 q3)
                all_goals
                  refine ⟨?_, ?measure⟩
                  case measure => simp [intOf]; omega
                  first
                    | exact ⟨j + 1, n2, _, c', rfl, by go_num, by omega, H7⟩
                    | ((repeat apply Exists.intro); exact ⟨⟨j + 1, n2, _, c', rfl, by go_num, by omega, H7⟩, rfl⟩)
          · obtain ⟨hjn, hdr, htk⟩ : n = j ∧ L.drop j = [] ∧ L.take j = L := ⟨by omega, List.drop_of_length_le (by omega), List.take_of_length_le (by omega)⟩
            have HE : Hid (HQ w wr p w.heap.size 16 n' c r [] ∧ EA wr a L ∧ EA wr rO L) := Lib.hid (by
              have h := H2.out
              rw [hdr, htk] at h
              exact ⟨h.1, h.2.1, EA.of_rm h.2.2⟩)
            subst hjn
            have HN := Lib.hid hnL
            clear hdr htk hnL
            obtain rfl : n' = 0 := HE.out.1.1.len.symm
            go_wp2_with fail
            refine (he_pop_none p w.heap.size 16 0 c r wr HE.out.1.1).mono ?_
            rintro e W4 ⟨rfl, b4⟩
            have H4 : Hid (HQ w (W4.alloc (.cells #[.int .i64 0, .int .i64 0] 38)) p w.heap.size 16 0 c r [] ∧ EA (W4.alloc (.cells #[.int .i64 0, .int .i64 0] 38)) a L ∧ EA (W4.alloc (.cells #[.int .i64 0, .int .i64 0] 38)) rO L) := Lib.hid (by
              have q0 := (Below.refl W4.heap.size W4).alloc (Nat.le_refl _) (.cells #[.int .i64 0, .int .i64 0] 38)
              exact ⟨(HE.out.1.below b4).below q0, (HE.out.2.1.below b4).below q0, (HE.out.2.2.below b4).below q0⟩)
            clear b4
            go_wp2_with fail
            refine (rf_same5 L L n cO n cc HN.out HN.out (by omega) rO a true (by simp) _ H4.out.2.2 H4.out.2.1).mono ?_
            rintro e W6 ⟨rfl, b6⟩
            have H6 := Lib.hid (H4.out.1.below b6)
            clear b6
            go_wp2_with fail
            refine (he_len p 0 c r _ H6.out.1.c0).mono ?_
            rintro e W7 ⟨rfl, h7⟩
            obtain rfl := h7
            go_wp2_with fail
            refine (he_lives _).mono ?_
            rintro e W8 ⟨rfl, b8⟩
            have H8 := Lib.hid (H6.out.2.1.trans (b8.mono H6.out.2.1.size))
            clear b8
            go_wp2_with fail
            go_ret
            exact ⟨rfl, H8.out⟩
    · have hltb : ¬ (m : Int) < (len0 : Int) := by omega
      have hL16 := H1.out.1.1.ok.len
      have hnL := H1.out.1.1.len
      obtain ⟨B0, hB0⟩ : ∃ B0, wr.heap.size = B0 := ⟨_, rfl⟩
      have HB0 : Hid (p < B0 ∧ w.heap.size < B0 ∧ (∀ g ∈ rvB r, g < B0) ∧ (∀ g ∈ rvB a, g < B0) ∧ w.heap.size ≤ B0) := Lib.hid (by
        subst hB0
        exact ⟨H1.out.1.1.o.lt, H1.out.1.1.a.lt, fun g hg => (H1.out.1.1.m.lt g hg).2, H1.out.2.1.1, H1.out.1.2.1.size⟩)
      have hwB := HB0.out.2.2.2.2
      have hpB := HB0.out.1
      have hgB := HB0.out.2.1
      have H2 : Hid (HQ w (wr.alloc (.cells #[] 38)) p w.heap.size 16 n c r (L.drop 0) ∧ EA (wr.alloc (.cells #[] 38)) a L ∧ RM (wr.alloc (.cells #[] 38)) B0 (some ⟨wr.heap.size, 0, none⟩) 0 0 2 (es (L.take 0)) 38) := Lib.hid (by
        have q0 := (Below.refl wr.heap.size wr).alloc (Nat.le_refl _) (.cells #[] 38)
        rw [List.drop_zero]
        exact ⟨H1.out.1.below q0, H1.out.2.1.below q0, by simp [es], by simp; omega, Or.inr ⟨_, rfl, by omega, by simpa [es] using Rn.empty wr 2 38⟩⟩)
      have HDS := Lib.hid H1.out.2.2
      clear hB0
      go_wp2_with fail
      revert H2
      generalize (wr.alloc (.cells #[] 38)) = W2
      intro H2
      clear H1
      go_wp2_with fail
      go_loopw [6, 7] (fun ov iv wr => ∃ (j n' : Nat) (rO : Option Addr) (cO : Nat), ov = .slice rO j cO ∧ iv = .int .i64 j ∧ j ≤ L.length ∧ Hid (HQ w wr p w.heap.size 16 n' c r (L.drop j) ∧ EA wr a L ∧ RM wr B0 rO j cO 2 (es (L.take j)) 38)) (fun _ iv _ => 17 - (intOf iv).toNat)
      case atStart => exact ⟨0, n, _, 0, rfl, rfl, by omega, H2⟩
      case round =>
        clear H2
        obtain ⟨j, n', rO, cO, rfl, rfl, hjL, H2⟩ := hrel
        have j0 : (0 : Int) ≤ (j : Int) := by omega
        have j17 : (j : Int) < 17 := by omega
        by_cases hlt : j < L.length
        · obtain ⟨⟨x1, x2⟩, hx⟩ : ∃ x, L[j]? = some x := ⟨_, List.getElem?_eq_getElem hlt⟩
          have hdrop : L.drop j = (x1, x2) :: L.drop (j + 1) := by
            rw [List.drop_eq_getElem_cons hlt]
            rw [List.getElem?_eq_getElem hlt] at hx
            injection hx with hx
            rw [hx]
          have HTK : Hid (L.take (j + 1) = L.take j ++ [(x1, x2)]) := Lib.hid (by
            rw [List.take_succ_eq_append_getElem hlt]
            rw [List.getElem?_eq_getElem hlt] at hx
            injection hx with hx
            rw [hx])
          have HX := Lib.hid (And.intro hx hdrop)
          clear hx hdrop
          go_wp2_with fail
          refine (he_pop_some p w.heap.size 16 n' c r (L.drop j) (L.drop (j + 1)) x1 x2 HX.out.2 wr H2.out.1.1).mono ?_
          rintro e W4 ⟨n2, rfl, k1, k2⟩
          have H5 : Hid (HQ w (W4.alloc (.cells #[.int .i64 x1, .int .i64 x2] 38)) p w.heap.size 16 n2 c r (L.drop (j + 1)) ∧ EA (W4.alloc (.cells #[.int .i64 x1, .int .i64 x2] 38)) a L ∧ Blk (W4.alloc (.cells #[.int .i64 x1, .int .i64 x2] 38)) W4.heap.size [.int .i64 x1, .int .i64 x2] 38 ∧ RM (W4.alloc (.cells #[.int .i64 x1, .int .i64 x2] 38)) B0 rO j cO 2 (es (L.take j)) 38 ∧ True) := Lib.hid (by
            have q0 := (Below.refl W4.heap.size W4).alloc (Nat.le_refl _) (.cells #[.int .i64 x1, .int .i64 x2] 38)
            have hO := H2.out.2.2.lt
            have hB := HB0.out
            refine ⟨(H2.out.1.step k1 (fun g hg => Or.inl hg) k2).below q0, (H2.out.2.1.chg k2 HDS.out).below q0, Blk.newA W4 _ _, (H2.out.2.2.chg k2 (fun g hg => ?_)).chg (Chg.of_fresh (l := []) q0) (by simp), trivial⟩
            have := (hO g hg).1
            simp; exact ⟨by omega, by omega, fun h => by have := hB.2.2.1 g h; omega⟩)
          clear k1 k2
          go_wp2_with fail
          revert H5
          generalize hW5 : (W4.alloc (.cells #[.int .i64 x1, .int .i64 x2] 38)) = W5
          intro H5
          by_cases hj0 : j = 0
          · have hg0 : decide ((0 : Int) < (j : Int)) = false := by simp; omega
            have hg1 : ¬ 0 < j := by omega
            clear hW5 hj0
            refine wp_region_class (fun w' => Blk w' W4.heap.size [.int .i64 x1, .int .i64 x2] 38 ∧ RM w' B0 rO j cO 2 (es (L.take j)) 38 ∧ Chg [] W5 w') (by kernel_rfl) (by kernel_rfl) ⟨H5.out.2.2.1.drew, H5.out.2.2.2.1.chg (Chg.refl [] _).drew (by simp), (Chg.refl [] _).drew⟩ ?_
            repeat (first
                | go_big_quiet_skip
                | (go_big_quiet_want
                   unfold Oper.quiet
                   apply Exists.intro
                   refine ⟨fun wq hwq => ?_, ?_⟩
                   · (obtain ⟨hq1, hq2, hq3⟩ := hwq
                      have e1 := hq1.cell (i := 0) rfl
                      have e2 := hq1.cell (i := 1) rfl

                      unfold Oper.quietAt
                      go_simp
                      first
                        | exact ⟨rfl, hq1, hq2, hq3⟩
                        | exact rfl)
                   simp only [Act.put, List.setIfInBounds_toArray, List.set_cons_zero, List.set_cons_succ]
                   go_big_quiet_on))
            refine wpQuiet_nil ?_
            intro w6 hw6
            have H6 : Hid (HQ w w6 p w.heap.size 16 n2 c r (L.drop (j + 1)) ∧ EA w6 a L ∧ Blk w6 W4.heap.size [.int .i64 x1, .int .i64 x2] 38 ∧ RM w6 B0 rO j cO 2 (es (L.take j)) 38) := Lib.hid ⟨H5.out.1.step (H5.out.1.1.chg hw6.2.2 (by simp) (by simp) (by simp)) (fun g hg => Or.inl hg) (hw6.2.2.mono (by simp)), H5.out.2.1.chg hw6.2.2 (by simp), hw6.1, hw6.2.1⟩
            have z0 := H6.out.2.2.1.cell (i := 0) rfl
            have z1 := H6.out.2.2.1.cell (i := 1) rfl
            clear hw6
            go_wp2_with (at_builtin; refine wpList_append_rm _ rfl (.tmp 89) (.tmp 91) 25 25 rfl 38 (.agg #[.int .i64 0, .int .i64 0]) 2 16 Try.underlying25 infoE rfl B0 rO j cO (es (L.take j)) rfl (H6.out.2.2.2.chg (l := []) ((Chg.refl _ _).alloc _) (by simp)) _ rfl 1 (by omega) [.int .i64 x1, .int .i64 x2] (Src.ofSlice _ Try.underlying25 _ _ _ _ rfl (fun i u hi => by rw [Addr.add_lit, Nat.zero_add]; exact (Blk.newA w6 #[.int .i64 x1, .int .i64 x2] 38).cell hi) (by intro v hv; simp at hv; rcases hv with rfl | rfl <;> rfl)) (by omega) (by omega) ?_; intro g' c' w7 q1 q2 q3; rw [← es_snoc, ← HTK.out] at q1; have H7 : Hid (HQ w w7 p w.heap.size 16 n2 c r (L.drop (j + 1)) ∧ EA w7 a L ∧ RM w7 B0 (some ⟨g', 0, none⟩) (j + 1) c' 2 (es (L.take (j + 1))) 38) := Lib.hid (by
              have q0 := (Chg.refl [] w6).alloc (Obj.cells #[Value.int IntKind.i64 x1, Value.int IntKind.i64 x2] 38)
              have hO := H6.out.2.2.2.lt
              have hB := HB0.out
              refine ⟨⟨(H6.out.1.1.chg q0 (by simp) (by simp) (by simp)).chg q3 (fun h => by have := (hO _ h).1; omega) (fun h => by have := (hO _ h).1; omega) (fun g hg h => by have := (hO _ h).1; have := hB.2.2.1 g hg; omega), q3.onto (H6.out.1.2.1.alloc H6.out.1.2.1.size _) (by simp; have := H6.out.1.2.1.size; omega) (fun x hx => by have := (hO _ hx).1; omega), H6.out.1.2.2⟩, (H6.out.2.1.chg q0 (by simp)).chg q3 (fun g hg h => by have := (hO _ h).1; have := hB.2.2.2.1 g hg; omega), q1⟩); clear q1 q2 q3)
            all_goals
              refine ⟨?_, ?measure⟩
              case measure => simp [intOf]; omega
              first
                | exact ⟨j + 1, n2, _, c', rfl, by go_num, by omega, H7⟩
                | ((repeat apply Exists.intro); exact ⟨⟨j + 1, n2, _, c', rfl, by go_num, by omega, H7⟩, rfl⟩)
          · obtain ⟨i1, hi1⟩ : ∃ i1, j = i1 + 1 := ⟨j - 1, by omega⟩
            have hg0 : decide ((0 : Int) < (j : Int)) = true := by simp; omega
            have hg1 : 0 < j := by omega
            have hs1 : (j : Int) - 1 = (i1 : Int) := by omega
            have hs2 : IntKind.i64.wrap ((j : Int) - 1) = (i1 : Int) := by rw [IntWalk.i64_in _ (by omega)]; exact hs1
            have hs3 : (i1 : Int) < (j : Int) := by omega
            have hs4 : (0 : Int) ≤ (i1 : Int) := by omega
            have hs5 : i1 < j := by omega
            have hs6 : IntKind.i64.wrap (i1 : Int) = (i1 : Int) := IntWalk.i64_in _ (by omega)
            have hi1L : i1 < L.length := by omega
            obtain ⟨⟨y1, y2⟩, hy⟩ : ∃ y, L[i1]? = some y := ⟨_, List.getElem?_eq_getElem hi1L⟩
            have hcmp : He.cmp (y1, y2) (x1, x2) < 0 := by
              have hp := List.pairwise_iff_getElem.1 HOK.out.srt i1 j hi1L hlt (by omega)
              have hx := HX.out.1
              rw [List.getElem?_eq_getElem hlt] at hx
              rw [List.getElem?_eq_getElem hi1L] at hy
              injection hx with hx; injection hy with hy
              rw [hx, hy] at hp
              exact hp
            rw [cmp_lt] at hcmp
            dsimp only at hcmp
            have HY : Hid ((L.take j)[i1]? = some (y1, y2) ∧ True) := Lib.hid ⟨by rw [List.getElem?_take, if_pos (by omega)]; exact hy, trivial⟩
            obtain ⟨gO, hgO, _, _⟩ := H5.out.2.2.2.1.row hg1
            subst hgO
            have hd1 : decide (x1 < y1) = false := by simp; omega
            clear hy hi1 hW5
            by_cases he : y1 = x1
            · subst he
              have hd2 : decide (x2 ≤ y2) = false := by simp; omega
              have hd3 : (y1 == y1) = true := by simp
              clear hcmp
              refine wp_region_class (fun w' => Blk w' W4.heap.size [.int .i64 y1, .int .i64 x2] 38 ∧ RM w' B0 (some ⟨gO, 0, none⟩) j cO 2 (es (L.take j)) 38 ∧ Chg [] W5 w') (by kernel_rfl) (by kernel_rfl) ⟨H5.out.2.2.1.drew, H5.out.2.2.2.1.chg (Chg.refl [] _).drew (by simp), (Chg.refl [] _).drew⟩ ?_
              repeat (first
                  | go_big_quiet_skip
                  | (go_big_quiet_want
                     unfold Oper.quiet
                     apply Exists.intro
                     refine ⟨fun wq hwq => ?_, ?_⟩
                     · (obtain ⟨hq1, hq2, hq3⟩ := hwq
                        have e1 := hq1.cell (i := 0) rfl
                        have e2 := hq1.cell (i := 1) rfl
                        have d0 := hq2.rn.cell (es_get (L.take j) i1 y1 y2 HY.out.1).1
                        have d1 := hq2.rn.cell (es_get (L.take j) i1 y1 y2 HY.out.1).2
                        unfold Oper.quietAt
                        go_simp
                        first
                          | exact ⟨rfl, hq1, hq2, hq3⟩
                          | exact rfl)
                     simp only [Act.put, List.setIfInBounds_toArray, List.set_cons_zero, List.set_cons_succ]
                     go_big_quiet_on))
              refine wpQuiet_nil ?_
              intro w6 hw6
              have H6 : Hid (HQ w w6 p w.heap.size 16 n2 c r (L.drop (j + 1)) ∧ EA w6 a L ∧ Blk w6 W4.heap.size [.int .i64 y1, .int .i64 x2] 38 ∧ RM w6 B0 (some ⟨gO, 0, none⟩) j cO 2 (es (L.take j)) 38) := Lib.hid ⟨H5.out.1.step (H5.out.1.1.chg hw6.2.2 (by simp) (by simp) (by simp)) (fun g hg => Or.inl hg) (hw6.2.2.mono (by simp)), H5.out.2.1.chg hw6.2.2 (by simp), hw6.1, hw6.2.1⟩
              have z0 := H6.out.2.2.1.cell (i := 0) rfl
              have z1 := H6.out.2.2.1.cell (i := 1) rfl
              clear hw6
              go_wp2_with (at_builtin; refine wpList_append_rm _ rfl (.tmp 89) (.tmp 91) 25 25 rfl 38 (.agg #[.int .i64 0, .int .i64 0]) 2 16 Try.underlying25 infoE rfl B0 (some ⟨gO, 0, none⟩) j cO (es (L.take j)) rfl (H6.out.2.2.2.chg (l := []) ((Chg.refl _ _).alloc _) (by simp)) _ rfl 1 (by omega) [.int .i64 y1, .int .i64 x2] (Src.ofSlice _ Try.underlying25 _ _ _ _ rfl (fun i u hi => by rw [Addr.add_lit, Nat.zero_add]; exact (Blk.newA w6 #[.int .i64 y1, .int .i64 x2] 38).cell hi) (by intro v hv; simp at hv; rcases hv with rfl | rfl <;> rfl)) (by omega) (by omega) ?_; intro g' c' w7 q1 q2 q3; rw [← es_snoc, ← HTK.out] at q1; have H7 : Hid (HQ w w7 p w.heap.size 16 n2 c r (L.drop (j + 1)) ∧ EA w7 a L ∧ RM w7 B0 (some ⟨g', 0, none⟩) (j + 1) c' 2 (es (L.take (j + 1))) 38) := Lib.hid (by
                have q0 := (Chg.refl [] w6).alloc (Obj.cells #[Value.int IntKind.i64 y1, Value.int IntKind.i64 x2] 38)
                have hO := H6.out.2.2.2.lt
                have hB := HB0.out
                refine ⟨⟨(H6.out.1.1.chg q0 (by simp) (by simp) (by simp)).chg q3 (fun h => by have := (hO _ h).1; omega) (fun h => by have := (hO _ h).1; omega) (fun g hg h => by have := (hO _ h).1; have := hB.2.2.1 g hg; omega), q3.onto (H6.out.1.2.1.alloc H6.out.1.2.1.size _) (by simp; have := H6.out.1.2.1.size; omega) (fun x hx => by have := (hO _ hx).1; omega), H6.out.1.2.2⟩, (H6.out.2.1.chg q0 (by simp)).chg q3 (fun g hg h => by have := (hO _ h).1; have := hB.2.2.2.1 g hg; omega), q1⟩); clear q1 q2 q3)
              all_goals
                refine ⟨?_, ?measure⟩
                case measure => simp [intOf]; omega
                first
                  | exact ⟨j + 1, n2, _, c', rfl, by go_num, by omega, H7⟩
                  | ((repeat apply Exists.intro); exact ⟨⟨j + 1, n2, _, c', rfl, by go_num, by omega, H7⟩, rfl⟩)
            · have hd3 : (y1 == x1) = false := by rw [beq_eq_false_iff_ne]; exact he
              clear hcmp he
              refine wp_region_class (fun w' => Blk w' W4.heap.size [.int .i64 x1, .int .i64 x2] 38 ∧ RM w' B0 (some ⟨gO, 0, none⟩) j cO 2 (es (L.take j)) 38 ∧ Chg [] W5 w') (by kernel_rfl) (by kernel_rfl) ⟨H5.out.2.2.1.drew, H5.out.2.2.2.1.chg (Chg.refl [] _).drew (by simp), (Chg.refl [] _).drew⟩ ?_
              repeat (first
                  | go_big_quiet_skip
                  | (go_big_quiet_want
                     unfold Oper.quiet
                     apply Exists.intro
                     refine ⟨fun wq hwq => ?_, ?_⟩
                     · (obtain ⟨hq1, hq2, hq3⟩ := hwq
                        have e1 := hq1.cell (i := 0) rfl
                        have e2 := hq1.cell (i := 1) rfl
                        have d0 := hq2.rn.cell (es_get (L.take j) i1 y1 y2 HY.out.1).1
                        have d1 := hq2.rn.cell (es_get (L.take j) i1 y1 y2 HY.out.1).2
                        unfold Oper.quietAt
                        go_simp
                        first
                          | exact ⟨rfl, hq1, hq2, hq3⟩
                          | exact rfl)
                     simp only [Act.put, List.setIfInBounds_toArray, List.set_cons_zero, List.set_cons_succ]
                     go_big_quiet_on))
              refine wpQuiet_nil ?_
              intro w6 hw6
              have H6 : Hid (HQ w w6 p w.heap.size 16 n2 c r (L.drop (j + 1)) ∧ EA w6 a L ∧ Blk w6 W4.heap.size [.int .i64 x1, .int .i64 x2] 38 ∧ RM w6 B0 (some ⟨gO, 0, none⟩) j cO 2 (es (L.take j)) 38) := Lib.hid ⟨H5.out.1.step (H5.out.1.1.chg hw6.2.2 (by simp) (by simp) (by simp)) (fun g hg => Or.inl hg) (hw6.2.2.mono (by simp)), H5.out.2.1.chg hw6.2.2 (by simp), hw6.1, hw6.2.1⟩
              have z0 := H6.out.2.2.1.cell (i := 0) rfl
              have z1 := H6.out.2.2.1.cell (i := 1) rfl
              clear hw6
              go_wp2_with (at_builtin; refine wpList_append_rm _ rfl (.tmp 89) (.tmp 91) 25 25 rfl 38 (.agg #[.int .i64 0, .int .i64 0]) 2 16 Try.underlying25 infoE rfl B0 (some ⟨gO, 0, none⟩) j cO (es (L.take j)) rfl (H6.out.2.2.2.chg (l := []) ((Chg.refl _ _).alloc _) (by simp)) _ rfl 1 (by omega) [.int .i64 x1, .int .i64 x2] (Src.ofSlice _ Try.underlying25 _ _ _ _ rfl (fun i u hi => by rw [Addr.add_lit, Nat.zero_add]; exact (Blk.newA w6 #[.int .i64 x1, .int .i64 x2] 38).cell hi) (by intro v hv; simp at hv; rcases hv with rfl | rfl <;> rfl)) (by omega) (by omega) ?_; intro g' c' w7 q1 q2 q3; rw [← es_snoc, ← HTK.out] at q1; have H7 : Hid (HQ w w7 p w.heap.size 16 n2 c r (L.drop (j + 1)) ∧ EA w7 a L ∧ RM w7 B0 (some ⟨g', 0, none⟩) (j + 1) c' 2 (es (L.take (j + 1))) 38) := Lib.hid (by
                have q0 := (Chg.refl [] w6).alloc (Obj.cells #[Value.int IntKind.i64 x1, Value.int IntKind.i64 x2] 38)
                have hO := H6.out.2.2.2.lt
                have hB := HB0.out
                refine ⟨⟨(H6.out.1.1.chg q0 (by simp) (by simp) (by simp)).chg q3 (fun h => by have := (hO _ h).1; omega) (fun h => by have := (hO _ h).1; omega) (fun g hg h => by have := (hO _ h).1; have := hB.2.2.1 g hg; omega), q3.onto (H6.out.1.2.1.alloc H6.out.1.2.1.size _) (by simp; have := H6.out.1.2.1.size; omega) (fun x hx => by have := (hO _ hx).1; omega), H6.out.1.2.2⟩, (H6.out.2.1.chg q0 (by simp)).chg q3 (fun g hg h => by have := (hO _ h).1; have := hB.2.2.2.1 g hg; omega), q1⟩); clear q1 q2 q3)
              all_goals
                refine ⟨?_, ?measure⟩
                case measure => simp [intOf]; omega
                first
                  | exact ⟨j + 1, n2, _, c', rfl, by go_num, by omega, H7⟩
                  | ((repeat apply Exists.intro); exact ⟨⟨j + 1, n2, _, c', rfl, by go_num, by omega, H7⟩, rfl⟩)
        · obtain ⟨hjn, hdr, htk⟩ : n = j ∧ L.drop j = [] ∧ L.take j = L := ⟨by omega, List.drop_of_length_le (by omega), List.take_of_length_le (by omega)⟩
          have HE : Hid (HQ w wr p w.heap.size 16 n' c r [] ∧ EA wr a L ∧ EA wr rO L) := Lib.hid (by
            have h := H2.out
            rw [hdr, htk] at h
            exact ⟨h.1, h.2.1, EA.of_rm h.2.2⟩)
          subst hjn
          have HN := Lib.hid hnL
          clear hdr htk hnL
          obtain rfl : n' = 0 := HE.out.1.1.len.symm
          go_wp2_with fail
          refine (he_pop_none p w.heap.size 16 0 c r wr HE.out.1.1).mono ?_
          rintro e W4 ⟨rfl, b4⟩
          have H4 : Hid (HQ w (W4.alloc (.cells #[.int .i64 0, .int .i64 0] 38)) p w.heap.size 16 0 c r [] ∧ EA (W4.alloc (.cells #[.int .i64 0, .int .i64 0] 38)) a L ∧ EA (W4.alloc (.cells #[.int .i64 0, .int .i64 0] 38)) rO L) := Lib.hid (by
            have q0 := (Below.refl W4.heap.size W4).alloc (Nat.le_refl _) (.cells #[.int .i64 0, .int .i64 0] 38)
            exact ⟨(HE.out.1.below b4).below q0, (HE.out.2.1.below b4).below q0, (HE.out.2.2.below b4).below q0⟩)
          clear b4
          go_wp2_with fail
          refine (rf_same5 L L n cO n cc HN.out HN.out (by omega) rO a true (by simp) _ H4.out.2.2 H4.out.2.1).mono ?_
          rintro e W6 ⟨rfl, b6⟩
          have H6 := Lib.hid (H4.out.1.below b6)
          clear b6
          go_wp2_with fail
          refine (he_len p 0 c r _ H6.out.1.c0).mono ?_
          rintro e W7 ⟨rfl, h7⟩
          obtain rfl := h7
          go_wp2_with fail
          refine (he_lives _).mono ?_
          rintro e W8 ⟨rfl, b8⟩
          have H8 := Lib.hid (H6.out.2.1.trans (b8.mono H6.out.2.1.size))
          clear b8
          go_wp2_with fail
          go_ret
          exact ⟨rfl, H8.out⟩

set_option maxRecDepth 100000 in
theorem lifted (os : Os) (started : os.Started) (H : Type) (enc : TypeId × Value → H) :
    ReturnsInHanded {} Try.checked os 4 .any (Rows.heapSortsSpec.pre6 enc Try.prog Try.f4 Rows.heapSortsRow.domain false) (Rows.heapSortsSpec.post enc Try.prog Try.f4 false true false false) := by
  refine returnsInHanded_of_change (C := Try.checked) ownKn started (by kernel_rfl) Try.func4
    (ChangeSpec.witness6 (enc := enc) (C := Try.checked) false ⟨#[], #[.slice none 0 0], []⟩ 8 (by kernel_rfl) (by kernel_rfl) (by kernel_rfl) (by kernel_rfl)) ?_
  intro W base args ds gs before hval0 hW hcnd _
  have hval : ∀ (j : Nat) t v, Try.f4.params[j]? = some t → args[j]? = some v → Value.okWide Try.prog W .any base t v := hval0
  have hW' := hW
  obtain ⟨p, q, hA0, hV, rfl, hfz, hnd⟩ := hW
  have hA : DataW.TrodAll enc Try.prog W 0 (fun _ => true) true Try.f4.params.toList args.toList ds p := hA0
  rw [Try.params4] at hA hval
  obtain ⟨v0, vs0, d0, ds0, p0, q0, hargs, rfl, rfl, h0, r0⟩ := trodAll_cons hA
  obtain ⟨rfl, rfl, rfl⟩ := trodAll_nil r0
  obtain rfl : args = #[v0] := by cases args; simp_all
  obtain ⟨rfl, rfl⟩ := trodVars_none hV
  have k0 := h0
  have lt0 : ∀ x ∈ p0, x.block < W.heap.size := by obtain ⟨m, hm⟩ := k0; exact DataW.trod_lt m _ _ _ hm
  obtain ⟨b0, lb0, cb0, rfl⟩ := okWide_slice Try.underlying46 (hval 0 46 v0 rfl rfl)
  obtain ⟨fu0, hf0⟩ := h0
  simp only [Value.cells] at hf0
  obtain ⟨a0, len0, cap0, z0, e0, w0⟩ := fld_row Try.underlying46 Try.underlying2 (by kernel_rfl) hf0
  obtain ⟨rfl, rfl, rfl⟩ : b0 = a0 ∧ lb0 = len0 ∧ cb0 = cap0 := by simpa using e0
  clear hA0 hval0
  refine (walk b0 lb0 cb0 z0 W w0).mono fun e W' ⟨he, bel⟩ => ?_
  subst he
  exact ⟨_, rfl, _, _, _, [], _, [], hW', trodAll_mk1 (shut_bool Try.underlying4 _), (trodAll_cons_mk (Below.trod laidOut (by kernel_rfl) (of_decide_eq_true (by kernel_rfl)) k0 bel lt0) trodAll_mk0), rfl, bel.frame _, fun h => by cases h⟩

theorem over : Rows.heapSortsRow.holds Try.pinned (OpenSpec.ofChange Rows.heapSortsSpec) :=
  OpenClaim.holds_of_wide 4 Try.f4 rfl rfl rfl rfl rfl rfl rfl ⟨rfl, rfl, rfl, rfl, rfl⟩ rfl rfl rfl rfl rfl (by kernel_rfl) Try.func4 (by kernel_rfl)
    (of_decide_eq_true (by kernel_rfl)) (by unfold Func.isWrapper; first | (rw [if_pos (by decide +kernel)]; kernel_rfl) | (rw [if_neg (by decide +kernel)]; exact ⟨rfl, rfl⟩))
    (fun os started H enc _ => lifted os started H enc)

/-- The statement. -/
theorem proved : Rows.HeapSortsSaid := over
#print axioms proved
end Go.Proofs.Ytbdjcppkfihonaa.heapSorts
