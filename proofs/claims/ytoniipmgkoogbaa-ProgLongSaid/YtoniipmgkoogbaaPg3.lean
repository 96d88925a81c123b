/- Scripts: what is wrong of an expect, of an op. -/
import Derived.Test.YtoniipmgkoogbaaPg2
import Derived.Lib.SliceRun
import Derived.Deep.RegionLaw
import Derived.WalkKit
import Derived.ProofKit
import Derived.Handy
import Derived.WalkLawsBesides
import Derived.WalkSpells
import Derived.Lib.Hide
import Derived.RegionTactic
import Derived.ChangeAlike
import Derived.WalkSmall
import Derived.Deep.QuietTactic
import Derived.BigQuiet
import Derived.OwnWalk
import Derived.Outline
import Derived.Deep.CutRange
import Derived.Deep.CutBlock
import Derived.LoopTactic
namespace Go.Proofs.Ytoniipmgkoogbaa
open Go.ChangeShapes Go.WideShapes Go.ChangeAt Go.RowKit
set_option linter.unusedSimpArgs false
set_option linter.unusedVariables false


theorem wArms_at (N : Nat) (p : ByteArray × Int) : ∀ (l : List (ByteArray × Int)) (j : Nat), (∀ q p', q < j → l[q]? = some p' → Pg.wArm N p' = 0) → l[j]? = some p → Pg.wArm N p ≠ 0 → Pg.wArms N l = Pg.wArm N p
  | [], j, _, h, _ => by simp at h
  | a :: l, 0, _, h, h2 => by
    simp at h
    subst h
    unfold Pg.wArms
    rw [if_pos h2]
  | a :: l, j + 1, h0, h, h2 => by
    unfold Pg.wArms
    have ha := h0 0 a (by omega) (by simp)
    rw [if_neg (not_not_intro ha)]
    exact wArms_at N p l j (fun q p' hq hp => h0 (q + 1) p' (by omega) (by simpa using hp)) (by simpa using h) h2
theorem wArms_all (N : Nat) : ∀ (l : List (ByteArray × Int)), (∀ (q : Nat) p', l[q]? = some p' → Pg.wArm N p' = 0) → Pg.wArms N l = 0
  | [], _ => rfl
  | a :: l, h0 => by
    unfold Pg.wArms
    have ha := h0 0 a (by simp)
    rw [if_neg (not_not_intro ha)]
    exact wArms_all N l (fun q p' hp => h0 (q + 1) p' (by simpa using hp))
set_option maxRecDepth 20000 in
set_option maxHeartbeats 16000000 in
theorem pg_expect (k : Int) (tx : ByteArray) (n to1 : Int) (aa : Option Addr) (al ac : Nat) (ot oe : Int) (ar : List (ByteArray × Int)) (hl : ar.length = al) (hal : al ≤ maxLen) (N : Nat) (e : Nat) (he : Pg.wExp N ⟨k, tx, n, to1, ar, ot, oe⟩ = e) (w : World) (HA : AL w aa ar) : Calls Try.prog 28 #[.agg #[.int .i64 k, .string tx, .int .i64 n, .int .i64 to1, .slice aa al ac, .int .i64 ot, .int .i64 oe], .int .i64 N] w fun r w' => r = .returned (.int .i64 e) ∧ Below w.heap.size w w' := by
  have hm : maxLen ≤ 9223372036854775807 := by unfold maxLen; omega
  have HL := Lib.hid (And.intro hl HA)
  have HE := Lib.hid he
  clear hl HA he
  obtain ⟨bn, hbn⟩ : ∃ b, Pg.inB n 0 1000000000000 = b := ⟨_, rfl⟩
  have HI := Lib.hid hbn
  clear hbn
  go_enter Try.func28, Try.ntmps28
  go_upto_region 1 with fail
  have HB : Hid (Blk (w.alloc (.cells #[.int .i64 k, .string tx, .int .i64 n, .int .i64 to1, .slice aa al ac, .int .i64 ot, .int .i64 oe] 27)) w.heap.size [.int .i64 k, .string tx, .int .i64 n, .int .i64 to1, .slice aa al ac, .int .i64 ot, .int .i64 oe] 27 ∧ Below w.heap.size w (w.alloc (.cells #[.int .i64 k, .string tx, .int .i64 n, .int .i64 to1, .slice aa al ac, .int .i64 ot, .int .i64 oe] 27))) := Lib.hid ⟨Blk.newA _ _ _, (Below.refl _ _).alloc (Nat.le_refl _) _⟩
  revert HB
  generalize (w.alloc (.cells #[.int .i64 k, .string tx, .int .i64 n, .int .i64 to1, .slice aa al ac, .int .i64 ot, .int .i64 oe] 27)) = W0
  intro HB
  have c2 := HB.out.1.cell (i := 2) rfl
  have c4 := HB.out.1.cell (i := 4) rfl
  cases bn with
  | true =>
    have HG : Hid (¬ (Pg.inB n 0 1000000000000 = false ∧ n ≠ 9223372036854775807)) := Lib.hid (by rw [HI.out]; simp)
    go_upto_region 3 with (first | (go_at_call 16; refine (pg_ini n 0 1000000000000 _ HI.out _).mono ?_; rintro e W2 ⟨rfl, rfl⟩) | fail)
    by_cases h8 : 8 < al
    · have i8 : (8 : Int) < (al : Int) := by omega
      obtain rfl : 4 = e := by rw [← HE.out]; unfold Pg.wExp; dsimp only; rw [if_neg HG.out, if_pos (by rw [HL.out.1]; exact h8)]
      go_wp2_with fail
      go_ret
      exact ⟨rfl, HB.out.2⟩
    · have i8 : ¬ (8 : Int) < (al : Int) := by omega
      have HE2 : Hid ((if Pg.wArms N ar ≠ 0 then Pg.wArms N ar else if Pg.inB ot (-1) N = true ∧ Pg.inB oe (-1) N = true then 0 else 13) = e) := Lib.hid (by
        have h := HE.out
        unfold Pg.wExp at h
        dsimp only at h
        rw [if_neg HG.out, if_neg (by rw [HL.out.1]; exact h8)] at h
        exact h)
      clear HE HG
      go_upto_region 6 with fail
      clear c2 c4
      go_loopw [6, 7, 24] (fun _ _ i wr => ∃ j : Nat, i = .int .i64 j ∧ j ≤ al ∧ Hid (∀ q p', q < j → ar[q]? = some p' → Pg.wArm N p' = 0) ∧ Hid (Blk wr w.heap.size [.int .i64 k, .string tx, .int .i64 n, .int .i64 to1, .slice aa al ac, .int .i64 ot, .int .i64 oe] 27 ∧ Below w.heap.size w wr)) (fun _ _ i _ => al - (intOf i).toNat)
      case atStart => exact ⟨0, rfl, by omega, Lib.hid (fun q p' hq => by omega), HB⟩
      case round =>
        clear HB
        obtain ⟨j, rfl, hj, HK, HB⟩ := hrel
        have i0 : (0 : Int) ≤ (j : Int) := by omega
        by_cases hjl : j < al
        · have i1 : (j : Int) < (al : Int) := by omega
          have w1 : IntKind.i64.wrap ((j : Int) + 1) = (j : Int) + 1 := IntWalk.i64_in _ (by omega)
          obtain ⟨s, t, es⟩ : ∃ s t, ar[j]? = some (s, t) := ⟨_, _, List.getElem?_eq_getElem (by rw [HL.out.1]; exact hjl)⟩
          obtain ⟨hs, g, o, rfl, hg, d1, d2⟩ := (HL.out.2.below HB.out.2) j s t es
          obtain ⟨q, hq⟩ : ∃ q, Pg.wArm N (s, t) = q := ⟨_, rfl⟩
          have HQ := Lib.hid (And.intro hq es)
          clear hq es
          go_upto_region 8 with fail
          have HC : Hid ((Blk (wr.alloc (.cells #[.string s, .int .i64 t] 38)) w.heap.size [.int .i64 k, .string tx, .int .i64 n, .int .i64 to1, .slice (some ⟨g, o, none⟩) al ac, .int .i64 ot, .int .i64 oe] 27 ∧ Below w.heap.size w (wr.alloc (.cells #[.string s, .int .i64 t] 38))) ∧ Blk (wr.alloc (.cells #[.string s, .int .i64 t] 38)) wr.heap.size [.string s, .int .i64 t] 38) := Lib.hid ⟨⟨HB.out.1.alloc _, HB.out.2.alloc HB.out.2.size _⟩, Blk.newA _ _ _⟩
          clear d1 d2 HB
          revert HC
          generalize (wr.alloc (.cells #[.string s, .int .i64 t] 38)) = V1
          generalize wr.heap.size = Y
          intro HC
          have d1 := HC.out.2.cell (i := 0) rfl
          have d2 := HC.out.2.cell (i := 1) rfl
          by_cases q0 : q = 0
          · subst q0
            have HK2 : Hid (∀ q p', q < j + 1 → ar[q]? = some p' → Pg.wArm N p' = 0) := Lib.hid (fun q p' hq hp => by
              by_cases e : q = j
              · rw [e, HQ.out.2] at hp; rw [← Option.some.inj hp]; exact HQ.out.1
              · exact HK.out q p' (by omega) hp)
            go_wp2_with (first
              | (go_at_call 30; refine (pg_arm s t N hs _ HQ.out.1 _).mono ?_; rintro e W1 ⟨rfl, hb1⟩; have HD := Lib.hid (And.intro (HC.out.1.1.below hb1 HC.out.1.1.lt) (HC.out.1.2.trans (hb1.mono HC.out.1.2.size))); clear hb1 d1 d2)
              | fail)
            go_roundw
            case rel => exact ⟨j + 1, by go_num, by omega, HK2, HD⟩
            case measure => simp [intOf]; omega
          · have q1 : ¬ (q : Int) = 0 := by omega
            obtain rfl : q = e := by
              have h := HE2.out
              have h1 := wArms_at N (s, t) ar j HK.out HQ.out.2 (by rw [HQ.out.1]; exact q0)
              rw [h1, HQ.out.1, if_pos q0] at h
              exact h
            go_wp2_with (first
              | (go_at_call 30; refine (pg_arm s t N hs _ HQ.out.1 _).mono ?_; rintro e W1 ⟨rfl, hb1⟩; have HD := Lib.hid (And.intro (HC.out.1.1.below hb1 HC.out.1.1.lt) (HC.out.1.2.trans (hb1.mono HC.out.1.2.size))); clear hb1 d1 d2)
              | fail)
            go_ret
            exact ⟨rfl, HD.out.2⟩
        · have i1 : ¬ (j : Int) < (al : Int) := by omega
          obtain ⟨b1, hb1⟩ : ∃ b, Pg.inB ot (-1) N = b := ⟨_, rfl⟩
          obtain ⟨b2, hb2⟩ : ∃ b, Pg.inB oe (-1) N = b := ⟨_, rfl⟩
          have h := HE2.out
          rw [wArms_all N ar (fun q p' hp => HK.out q p' (by
            have : q < ar.length := (List.getElem?_eq_some_iff.1 hp).1
            rw [HL.out.1] at this
            omega) hp), if_neg (fun h => h rfl), hb1, hb2] at h
          have HJ := Lib.hid (And.intro hb1 hb2)
          clear hb1 hb2 HE2
          have c5 := HB.out.1.cell (i := 5) rfl
          have c6 := HB.out.1.cell (i := 6) rfl
          cases b1 with
          | true =>
            cases b2 with
            | true =>
              obtain rfl : 0 = e := by simpa using h
              clear h
              have HJ1 := Lib.hid HJ.out.1
              go_wp2_with (first
                | (have hz := HJ1.out; clear hz; go_at_call 17; refine (pg_inn ot (-1) N _ HJ1.out _).mono ?_; rintro e W2 ⟨rfl, rfl⟩; clear HJ1)
                | (go_at_call 17; refine (pg_inn oe (-1) N _ HJ.out.2 _).mono ?_; rintro e W2 ⟨rfl, rfl⟩)
                | fail)
              go_ret
              exact ⟨rfl, HB.out.2⟩
            | false =>
              obtain rfl : 13 = e := by simpa using h
              clear h
              have HJ1 := Lib.hid HJ.out.1
              go_wp2_with (first
                | (have hz := HJ1.out; clear hz; go_at_call 17; refine (pg_inn ot (-1) N _ HJ1.out _).mono ?_; rintro e W2 ⟨rfl, rfl⟩; clear HJ1)
                | (go_at_call 17; refine (pg_inn oe (-1) N _ HJ.out.2 _).mono ?_; rintro e W2 ⟨rfl, rfl⟩)
                | fail)
              go_ret
              exact ⟨rfl, HB.out.2⟩
          | false =>
            obtain rfl : 13 = e := by simpa using h
            clear h
            have HJ1 := Lib.hid HJ.out.1
            go_wp2_with (first
              | (have hz := HJ1.out; clear hz; go_at_call 17; refine (pg_inn ot (-1) N _ HJ1.out _).mono ?_; rintro e W2 ⟨rfl, rfl⟩; clear HJ1)
              | (go_at_call 17; refine (pg_inn oe (-1) N _ HJ.out.2 _).mono ?_; rintro e W2 ⟨rfl, rfl⟩)
              | fail)
            go_ret
            exact ⟨rfl, HB.out.2⟩
  | false =>
    by_cases hnv : n = 9223372036854775807
    · have HG : Hid (¬ (Pg.inB n 0 1000000000000 = false ∧ n ≠ 9223372036854775807)) := Lib.hid (fun h => h.2 hnv)
      subst hnv
      go_upto_region 3 with (first | (go_at_call 16; refine (pg_ini _ 0 1000000000000 _ HI.out _).mono ?_; rintro e W2 ⟨rfl, rfl⟩) | fail)
      by_cases h8 : 8 < al
      · have i8 : (8 : Int) < (al : Int) := by omega
        obtain rfl : 4 = e := by rw [← HE.out]; unfold Pg.wExp; dsimp only; rw [if_neg HG.out, if_pos (by rw [HL.out.1]; exact h8)]
        go_wp2_with fail
        go_ret
        exact ⟨rfl, HB.out.2⟩
      · have i8 : ¬ (8 : Int) < (al : Int) := by omega
        have HE2 : Hid ((if Pg.wArms N ar ≠ 0 then Pg.wArms N ar else if Pg.inB ot (-1) N = true ∧ Pg.inB oe (-1) N = true then 0 else 13) = e) := Lib.hid (by
          have h := HE.out
          unfold Pg.wExp at h
          dsimp only at h
          rw [if_neg HG.out, if_neg (by rw [HL.out.1]; exact h8)] at h
          exact h)
        clear HE HG
        go_upto_region 6 with fail
        clear c2 c4
        go_loopw [6, 7, 24] (fun _ _ i wr => ∃ j : Nat, i = .int .i64 j ∧ j ≤ al ∧ Hid (∀ q p', q < j → ar[q]? = some p' → Pg.wArm N p' = 0) ∧ Hid (Blk wr w.heap.size [.int .i64 k, .string tx, .int .i64 9223372036854775807, .int .i64 to1, .slice aa al ac, .int .i64 ot, .int .i64 oe] 27 ∧ Below w.heap.size w wr)) (fun _ _ i _ => al - (intOf i).toNat)
        case atStart => exact ⟨0, rfl, by omega, Lib.hid (fun q p' hq => by omega), HB⟩
        case round =>
          clear HB
          obtain ⟨j, rfl, hj, HK, HB⟩ := hrel
          have i0 : (0 : Int) ≤ (j : Int) := by omega
          by_cases hjl : j < al
          · have i1 : (j : Int) < (al : Int) := by omega
            have w1 : IntKind.i64.wrap ((j : Int) + 1) = (j : Int) + 1 := IntWalk.i64_in _ (by omega)
            obtain ⟨s, t, es⟩ : ∃ s t, ar[j]? = some (s, t) := ⟨_, _, List.getElem?_eq_getElem (by rw [HL.out.1]; exact hjl)⟩
            obtain ⟨hs, g, o, rfl, hg, d1, d2⟩ := (HL.out.2.below HB.out.2) j s t es
            obtain ⟨q, hq⟩ : ∃ q, Pg.wArm N (s, t) = q := ⟨_, rfl⟩
            have HQ := Lib.hid (And.intro hq es)
            clear hq es
            go_upto_region 8 with fail
            have HC : Hid ((Blk (wr.alloc (.cells #[.string s, .int .i64 t] 38)) w.heap.size [.int .i64 k, .string tx, .int .i64 9223372036854775807, .int .i64 to1, .slice (some ⟨g, o, none⟩) al ac, .int .i64 ot, .int .i64 oe] 27 ∧ Below w.heap.size w (wr.alloc (.cells #[.string s, .int .i64 t] 38))) ∧ Blk (wr.alloc (.cells #[.string s, .int .i64 t] 38)) wr.heap.size [.string s, .int .i64 t] 38) := Lib.hid ⟨⟨HB.out.1.alloc _, HB.out.2.alloc HB.out.2.size _⟩, Blk.newA _ _ _⟩
            clear d1 d2 HB
            revert HC
            generalize (wr.alloc (.cells #[.string s, .int .i64 t] 38)) = V1
            generalize wr.heap.size = Y
            intro HC
            have d1 := HC.out.2.cell (i := 0) rfl
            have d2 := HC.out.2.cell (i := 1) rfl
            by_cases q0 : q = 0
            · subst q0
              have HK2 : Hid (∀ q p', q < j + 1 → ar[q]? = some p' → Pg.wArm N p' = 0) := Lib.hid (fun q p' hq hp => by
                by_cases e : q = j
                · rw [e, HQ.out.2] at hp; rw [← Option.some.inj hp]; exact HQ.out.1
                · exact HK.out q p' (by omega) hp)
              go_wp2_with (first
                | (go_at_call 30; refine (pg_arm s t N hs _ HQ.out.1 _).mono ?_; rintro e W1 ⟨rfl, hb1⟩; have HD := Lib.hid (And.intro (HC.out.1.1.below hb1 HC.out.1.1.lt) (HC.out.1.2.trans (hb1.mono HC.out.1.2.size))); clear hb1 d1 d2)
                | fail)
              go_roundw
              case rel => exact ⟨j + 1, by go_num, by omega, HK2, HD⟩
              case measure => simp [intOf]; omega
            · have q1 : ¬ (q : Int) = 0 := by omega
              obtain rfl : q = e := by
                have h := HE2.out
                have h1 := wArms_at N (s, t) ar j HK.out HQ.out.2 (by rw [HQ.out.1]; exact q0)
                rw [h1, HQ.out.1, if_pos q0] at h
                exact h
              go_wp2_with (first
                | (go_at_call 30; refine (pg_arm s t N hs _ HQ.out.1 _).mono ?_; rintro e W1 ⟨rfl, hb1⟩; have HD := Lib.hid (And.intro (HC.out.1.1.below hb1 HC.out.1.1.lt) (HC.out.1.2.trans (hb1.mono HC.out.1.2.size))); clear hb1 d1 d2)
                | fail)
              go_ret
              exact ⟨rfl, HD.out.2⟩
          · have i1 : ¬ (j : Int) < (al : Int) := by omega
            obtain ⟨b1, hb1⟩ : ∃ b, Pg.inB ot (-1) N = b := ⟨_, rfl⟩
            obtain ⟨b2, hb2⟩ : ∃ b, Pg.inB oe (-1) N = b := ⟨_, rfl⟩
            have h := HE2.out
            rw [wArms_all N ar (fun q p' hp => HK.out q p' (by
              have : q < ar.length := (List.getElem?_eq_some_iff.1 hp).1
              rw [HL.out.1] at this
              omega) hp), if_neg (fun h => h rfl), hb1, hb2] at h
            have HJ := Lib.hid (And.intro hb1 hb2)
            clear hb1 hb2 HE2
            have c5 := HB.out.1.cell (i := 5) rfl
            have c6 := HB.out.1.cell (i := 6) rfl
            cases b1 with
            | true =>
              cases b2 with
              | true =>
                obtain rfl : 0 = e := by simpa using h
                clear h
                have HJ1 := Lib.hid HJ.out.1
                go_wp2_with (first
                  | (have hz := HJ1.out; clear hz; go_at_call 17; refine (pg_inn ot (-1) N _ HJ1.out _).mono ?_; rintro e W2 ⟨rfl, rfl⟩; clear HJ1)
                  | (go_at_call 17; refine (pg_inn oe (-1) N _ HJ.out.2 _).mono ?_; rintro e W2 ⟨rfl, rfl⟩)
                  | fail)
                go_ret
                exact ⟨rfl, HB.out.2⟩
              | false =>
                obtain rfl : 13 = e := by simpa using h
                clear h
                have HJ1 := Lib.hid HJ.out.1
                go_wp2_with (first
                  | (have hz := HJ1.out; clear hz; go_at_call 17; refine (pg_inn ot (-1) N _ HJ1.out _).mono ?_; rintro e W2 ⟨rfl, rfl⟩; clear HJ1)
                  | (go_at_call 17; refine (pg_inn oe (-1) N _ HJ.out.2 _).mono ?_; rintro e W2 ⟨rfl, rfl⟩)
                  | fail)
                go_ret
                exact ⟨rfl, HB.out.2⟩
            | false =>
              obtain rfl : 13 = e := by simpa using h
              clear h
              have HJ1 := Lib.hid HJ.out.1
              go_wp2_with (first
                | (have hz := HJ1.out; clear hz; go_at_call 17; refine (pg_inn ot (-1) N _ HJ1.out _).mono ?_; rintro e W2 ⟨rfl, rfl⟩; clear HJ1)
                | (go_at_call 17; refine (pg_inn oe (-1) N _ HJ.out.2 _).mono ?_; rintro e W2 ⟨rfl, rfl⟩)
                | fail)
              go_ret
              exact ⟨rfl, HB.out.2⟩
    · obtain rfl : 12 = e := by rw [← HE.out]; unfold Pg.wExp; dsimp only; rw [if_pos ⟨HI.out, hnv⟩]
      go_wp2_with (first | (go_at_call 16; refine (pg_ini n 0 1000000000000 _ HI.out _).mono ?_; rintro e W2 ⟨rfl, rfl⟩) | fail)
      go_ret
      exact ⟨rfl, HB.out.2⟩
set_option maxRecDepth 20000 in
set_option maxHeartbeats 4000000 in
theorem pg_wop (k : Int) (tx : ByteArray) (n to1 : Int) (aa : Option Addr) (al ac : Nat) (ot oe : Int) (ar : List (ByteArray × Int)) (hl : ar.length = al) (hal : al ≤ maxLen) (htx : tx.size ≤ maxLen) (N : Nat) (e : Nat) (he : Pg.wOp N ⟨k, tx, n, to1, ar, ot, oe⟩ = e) (w : World) (HA : AL w aa ar) : Calls Try.prog 18 #[.agg #[.int .i64 k, .string tx, .int .i64 n, .int .i64 to1, .slice aa al ac, .int .i64 ot, .int .i64 oe], .int .i64 N] w fun r w' => r = .returned (.int .i64 e) ∧ Below w.heap.size w w' := by
  obtain ⟨s, hw⟩ : ∃ s, Pg.word k = s := ⟨_, rfl⟩
  by_cases hz : s.size = 0
  · obtain rfl : 11 = e := by rw [← he]; unfold Pg.wOp; dsimp only; rw [if_pos (by rw [hw]; exact hz)]
    have ht : s = ⟨#[]⟩ := by
      have : s.data.size = 0 := hz
      cases s with | mk d => simp at this; rw [this]
    subst ht
    have HW := Lib.hid hw
    clear he hl HA hw hz
    go_enter Try.func18, Try.ntmps18
    go_wp2_with (first | (go_at_call 12; refine (pg_word _ _ HW.out _).mono ?_; rintro e W2 ⟨rfl, rfl⟩) | fail)
    go_ret
    exact ⟨rfl, (Below.refl _ _).alloc (Nat.le_refl _) _⟩
  · have hf := lxn_full (G := s) (by omega)
    by_cases h1 : k = 1
    · subst h1
      have HL := Lib.hid (And.intro hl HA)
      obtain ⟨b, hb⟩ : ∃ b, Pg.same ⟨1, tx, n, to1, ar, ot, oe⟩ (Pg.own ⟨1, tx, n, to1, ar, ot, oe⟩) = b := ⟨_, rfl⟩
      unfold Pg.wOp at he
      dsimp only at he
      rw [if_neg (by rw [hw]; omega), hb] at he
      have HS : Hid (Pg.same ⟨1, tx, n, to1, ar, ot, oe⟩ ⟨1, tx, 0, 0, [], 0, 0⟩ = b) := Lib.hid (by rw [← hb]; rfl)
      simp only [if_true] at he
      have HW := Lib.hid hw
      clear hb hw hl HA
      go_enter Try.func18, Try.ntmps18
      go_upto_region 1 with fail
      have HB : Hid (Blk (w.alloc (.cells #[.int .i64 1, .string tx, .int .i64 n, .int .i64 to1, .slice aa al ac, .int .i64 ot, .int .i64 oe] 27)) w.heap.size [.int .i64 1, .string tx, .int .i64 n, .int .i64 to1, .slice aa al ac, .int .i64 ot, .int .i64 oe] 27 ∧ Below w.heap.size w (w.alloc (.cells #[.int .i64 1, .string tx, .int .i64 n, .int .i64 to1, .slice aa al ac, .int .i64 ot, .int .i64 oe] 27))) := Lib.hid ⟨Blk.newA _ _ _, (Below.refl _ _).alloc (Nat.le_refl _) _⟩
      revert HB
      generalize (w.alloc (.cells #[.int .i64 1, .string tx, .int .i64 n, .int .i64 to1, .slice aa al ac, .int .i64 ot, .int .i64 oe] 27)) = W0
      intro HB
      have c0 := HB.out.1.cell (i := 0) rfl
      go_upto_region 3 with (first | (go_at_call 12; refine (pg_word _ s HW.out _).mono ?_; rintro e W2 ⟨rfl, rfl⟩) | fail)
      clear c0
      cases b with
      | false =>
        obtain rfl : 2 = e := by simpa using he
        clear he
        refine wp_region_class (fun w' => Blk w' w.heap.size [.int .i64 1, .string tx, .int .i64 n, .int .i64 to1, .slice aa al ac, .int .i64 ot, .int .i64 oe] 27 ∧ Below w.heap.size w w') (by kernel_rfl) (by kernel_rfl) ⟨HB.out.1.drew, HB.out.2.drew⟩ ?_
        repeat (first
            | go_big_quiet_skip
            | (go_big_quiet_want
               unfold Oper.quiet
               apply Exists.intro
               refine ⟨fun wq hwq => ?_, ?_⟩
               · (have c0 := hwq.1.cell (i := 0) rfl
                  have c1 := hwq.1.cell (i := 1) rfl
                  have c2 := hwq.1.cell (i := 2) rfl
                  have c3 := hwq.1.cell (i := 3) rfl
                  have c4 := hwq.1.cell (i := 4) rfl
                  have c5 := hwq.1.cell (i := 5) rfl
                  have c6 := hwq.1.cell (i := 6) rfl
                  unfold Oper.quietAt
                  go_simp
                  first
                    | exact ⟨rfl, hwq⟩
                    | exact rfl
                    | (go_at_call 26; refine (pg_own1 1 tx n to1 aa al ac ot oe rfl _).mono ?_; rintro e w3 ⟨he, hb⟩; exact ⟨he, hwq.1.below hb hwq.1.lt, hwq.2.trans (hb.mono hwq.2.size)⟩)
                    | (go_at_call 24; refine (pg_sameop 1 1 tx tx n 0 to1 0 aa none al 0 ac 0 ot 0 oe 0 ar [] HL.out.1 rfl hal _ HS.out _ (HL.out.2.below hwq.2) (AL.nil _ _)).mono ?_; rintro e w3 ⟨he, hb⟩; exact ⟨he, hwq.1.below hb hwq.1.lt, hwq.2.trans (hb.mono hwq.2.size)⟩))
               simp only [Act.put, List.setIfInBounds_toArray, List.set_cons_zero, List.set_cons_succ]
               go_big_quiet_on))
        refine wpQuiet_nil ?_
        intro w4 hw4
        have HX := Lib.hid hw4
        clear hw4 HB
        go_wp2_with fail
        go_ret
        exact ⟨rfl, HX.out.2⟩
      | true =>
        simp only [Bool.true_eq_false, if_false] at he
        have HE := Lib.hid he
        clear he
        refine wp_region_class (fun w' => Blk w' w.heap.size [.int .i64 1, .string tx, .int .i64 n, .int .i64 to1, .slice aa al ac, .int .i64 ot, .int .i64 oe] 27 ∧ Below w.heap.size w w') (by kernel_rfl) (by kernel_rfl) ⟨HB.out.1.drew, HB.out.2.drew⟩ ?_
        repeat (first
            | go_big_quiet_skip
            | (go_big_quiet_want
               unfold Oper.quiet
               apply Exists.intro
               refine ⟨fun wq hwq => ?_, ?_⟩
               · (have c0 := hwq.1.cell (i := 0) rfl
                  have c1 := hwq.1.cell (i := 1) rfl
                  have c2 := hwq.1.cell (i := 2) rfl
                  have c3 := hwq.1.cell (i := 3) rfl
                  have c4 := hwq.1.cell (i := 4) rfl
                  have c5 := hwq.1.cell (i := 5) rfl
                  have c6 := hwq.1.cell (i := 6) rfl
                  unfold Oper.quietAt
                  go_simp
                  first
                    | exact ⟨rfl, hwq⟩
                    | exact rfl
                    | (go_at_call 26; refine (pg_own1 1 tx n to1 aa al ac ot oe rfl _).mono ?_; rintro e w3 ⟨he, hb⟩; exact ⟨he, hwq.1.below hb hwq.1.lt, hwq.2.trans (hb.mono hwq.2.size)⟩)
                    | (go_at_call 24; refine (pg_sameop 1 1 tx tx n 0 to1 0 aa none al 0 ac 0 ot 0 oe 0 ar [] HL.out.1 rfl hal _ HS.out _ (HL.out.2.below hwq.2) (AL.nil _ _)).mono ?_; rintro e w3 ⟨he, hb⟩; exact ⟨he, hwq.1.below hb hwq.1.lt, hwq.2.trans (hb.mono hwq.2.size)⟩))
               simp only [Act.put, List.setIfInBounds_toArray, List.set_cons_zero, List.set_cons_succ]
               go_big_quiet_on))
        refine wpQuiet_nil ?_
        intro w4 hw4
        have HX := Lib.hid hw4
        clear hw4 HB
        have c0 := HX.out.1.cell (i := 0) rfl
        have c1 := HX.out.1.cell (i := 1) rfl
        have c2 := HX.out.1.cell (i := 2) rfl
        have c3 := HX.out.1.cell (i := 3) rfl
        have c4 := HX.out.1.cell (i := 4) rfl
        have c5 := HX.out.1.cell (i := 5) rfl
        have c6 := HX.out.1.cell (i := 6) rfl
        go_wp2_with (first | (go_at_call 27; refine (pg_send 1 tx n to1 aa al ac ot oe ar htx e HE.out _).mono ?_; rintro r W5 ⟨rfl, hb1⟩; have HY := Lib.hid (HX.out.2.trans (hb1.mono HX.out.2.size)); clear hb1) | fail)
        go_ret
        exact ⟨rfl, HY.out⟩
    · by_cases h2 : k = 2
      · subst h2
        clear h1
        have HL := Lib.hid (And.intro hl HA)
        obtain ⟨b, hb⟩ : ∃ b, Pg.same ⟨2, tx, n, to1, ar, ot, oe⟩ (Pg.own ⟨2, tx, n, to1, ar, ot, oe⟩) = b := ⟨_, rfl⟩
        unfold Pg.wOp at he
        dsimp only at he
        rw [if_neg (by rw [hw]; omega), hb] at he
        have HS : Hid (Pg.same ⟨2, tx, n, to1, ar, ot, oe⟩ ⟨2, ⟨#[]⟩, n, 0, ar, ot, oe⟩ = b) := Lib.hid (by rw [← hb]; rfl)
        simp only [if_true, if_neg (show ¬ (2 : Int) = 1 by decide)] at he
        have HW := Lib.hid hw
        clear hb hw hl HA
        go_enter Try.func18, Try.ntmps18
        go_upto_region 1 with fail
        have HB : Hid (Blk (w.alloc (.cells #[.int .i64 2, .string tx, .int .i64 n, .int .i64 to1, .slice aa al ac, .int .i64 ot, .int .i64 oe] 27)) w.heap.size [.int .i64 2, .string tx, .int .i64 n, .int .i64 to1, .slice aa al ac, .int .i64 ot, .int .i64 oe] 27 ∧ Below w.heap.size w (w.alloc (.cells #[.int .i64 2, .string tx, .int .i64 n, .int .i64 to1, .slice aa al ac, .int .i64 ot, .int .i64 oe] 27))) := Lib.hid ⟨Blk.newA _ _ _, (Below.refl _ _).alloc (Nat.le_refl _) _⟩
        revert HB
        generalize (w.alloc (.cells #[.int .i64 2, .string tx, .int .i64 n, .int .i64 to1, .slice aa al ac, .int .i64 ot, .int .i64 oe] 27)) = W0
        intro HB
        have c0 := HB.out.1.cell (i := 0) rfl
        go_upto_region 3 with (first | (go_at_call 12; refine (pg_word _ s HW.out _).mono ?_; rintro e W2 ⟨rfl, rfl⟩) | fail)
        clear c0
        cases b with
        | false =>
          obtain rfl : 2 = e := by simpa using he
          clear he
          refine wp_region_class (fun w' => Blk w' w.heap.size [.int .i64 2, .string tx, .int .i64 n, .int .i64 to1, .slice aa al ac, .int .i64 ot, .int .i64 oe] 27 ∧ Below w.heap.size w w') (by kernel_rfl) (by kernel_rfl) ⟨HB.out.1.drew, HB.out.2.drew⟩ ?_
          repeat (first
              | go_big_quiet_skip
              | (go_big_quiet_want
                 unfold Oper.quiet
                 apply Exists.intro
                 refine ⟨fun wq hwq => ?_, ?_⟩
                 · (have c0 := hwq.1.cell (i := 0) rfl
                    have c1 := hwq.1.cell (i := 1) rfl
                    have c2 := hwq.1.cell (i := 2) rfl
                    have c3 := hwq.1.cell (i := 3) rfl
                    have c4 := hwq.1.cell (i := 4) rfl
                    have c5 := hwq.1.cell (i := 5) rfl
                    have c6 := hwq.1.cell (i := 6) rfl
                    unfold Oper.quietAt
                    go_simp
                    first
                      | exact ⟨rfl, hwq⟩
                      | exact rfl
                      | (go_at_call 26; refine (pg_own2 2 tx n to1 aa al ac ot oe rfl _).mono ?_; rintro e w3 ⟨he, hb⟩; exact ⟨he, hwq.1.below hb hwq.1.lt, hwq.2.trans (hb.mono hwq.2.size)⟩)
                      | (go_at_call 24; refine (pg_sameop 2 2 tx ⟨#[]⟩ n n to1 0 aa aa al al ac ac ot ot oe oe ar ar HL.out.1 HL.out.1 hal _ HS.out _ (HL.out.2.below hwq.2) (HL.out.2.below hwq.2)).mono ?_; rintro e w3 ⟨he, hb⟩; exact ⟨he, hwq.1.below hb hwq.1.lt, hwq.2.trans (hb.mono hwq.2.size)⟩))
                 simp only [Act.put, List.setIfInBounds_toArray, List.set_cons_zero, List.set_cons_succ]
                 go_big_quiet_on))
          refine wpQuiet_nil ?_
          intro w4 hw4
          have HX := Lib.hid hw4
          clear hw4 HB
          go_wp2_with fail
          go_ret
          exact ⟨rfl, HX.out.2⟩
        | true =>
          simp only [Bool.true_eq_false, if_false] at he
          have HE := Lib.hid he
          clear he
          refine wp_region_class (fun w' => Blk w' w.heap.size [.int .i64 2, .string tx, .int .i64 n, .int .i64 to1, .slice aa al ac, .int .i64 ot, .int .i64 oe] 27 ∧ Below w.heap.size w w') (by kernel_rfl) (by kernel_rfl) ⟨HB.out.1.drew, HB.out.2.drew⟩ ?_
          repeat (first
              | go_big_quiet_skip
              | (go_big_quiet_want
                 unfold Oper.quiet
                 apply Exists.intro
                 refine ⟨fun wq hwq => ?_, ?_⟩
                 · (have c0 := hwq.1.cell (i := 0) rfl
                    have c1 := hwq.1.cell (i := 1) rfl
                    have c2 := hwq.1.cell (i := 2) rfl
                    have c3 := hwq.1.cell (i := 3) rfl
                    have c4 := hwq.1.cell (i := 4) rfl
                    have c5 := hwq.1.cell (i := 5) rfl
                    have c6 := hwq.1.cell (i := 6) rfl
                    unfold Oper.quietAt
                    go_simp
                    first
                      | exact ⟨rfl, hwq⟩
                      | exact rfl
                      | (go_at_call 26; refine (pg_own2 2 tx n to1 aa al ac ot oe rfl _).mono ?_; rintro e w3 ⟨he, hb⟩; exact ⟨he, hwq.1.below hb hwq.1.lt, hwq.2.trans (hb.mono hwq.2.size)⟩)
                      | (go_at_call 24; refine (pg_sameop 2 2 tx ⟨#[]⟩ n n to1 0 aa aa al al ac ac ot ot oe oe ar ar HL.out.1 HL.out.1 hal _ HS.out _ (HL.out.2.below hwq.2) (HL.out.2.below hwq.2)).mono ?_; rintro e w3 ⟨he, hb⟩; exact ⟨he, hwq.1.below hb hwq.1.lt, hwq.2.trans (hb.mono hwq.2.size)⟩))
                 simp only [Act.put, List.setIfInBounds_toArray, List.set_cons_zero, List.set_cons_succ]
                 go_big_quiet_on))
          refine wpQuiet_nil ?_
          intro w4 hw4
          have HX := Lib.hid hw4
          clear hw4 HB
          have c0 := HX.out.1.cell (i := 0) rfl
          have c1 := HX.out.1.cell (i := 1) rfl
          have c2 := HX.out.1.cell (i := 2) rfl
          have c3 := HX.out.1.cell (i := 3) rfl
          have c4 := HX.out.1.cell (i := 4) rfl
          have c5 := HX.out.1.cell (i := 5) rfl
          have c6 := HX.out.1.cell (i := 6) rfl
          go_wp2_with (first | (go_at_call 28; refine (pg_expect 2 tx n to1 aa al ac ot oe ar HL.out.1 hal N e HE.out _ (HL.out.2.below HX.out.2)).mono ?_; rintro r W5 ⟨rfl, hb1⟩; have HY := Lib.hid (HX.out.2.trans (hb1.mono HX.out.2.size)); clear hb1) | fail)
          go_ret
          exact ⟨rfl, HY.out⟩
      · by_cases h3 : k = 3
        · subst h3
          clear h1 h2
          have HL := Lib.hid (And.intro hl HA)
          obtain ⟨b, hb⟩ : ∃ b, Pg.same ⟨3, tx, n, to1, ar, ot, oe⟩ (Pg.own ⟨3, tx, n, to1, ar, ot, oe⟩) = b := ⟨_, rfl⟩
          unfold Pg.wOp at he
          dsimp only at he
          rw [if_neg (by rw [hw]; omega), hb] at he
          have HS : Hid (Pg.same ⟨3, tx, n, to1, ar, ot, oe⟩ ⟨3, ⟨#[]⟩, 0, to1, [], 0, 0⟩ = b) := Lib.hid (by rw [← hb]; rfl)
          simp only [if_true, if_neg (show ¬ (3 : Int) = 1 by decide), if_neg (show ¬ (3 : Int) = 2 by decide)] at he
          have HW := Lib.hid hw
          clear hb hw hl HA
          go_enter Try.func18, Try.ntmps18
          go_upto_region 1 with fail
          have HB : Hid (Blk (w.alloc (.cells #[.int .i64 3, .string tx, .int .i64 n, .int .i64 to1, .slice aa al ac, .int .i64 ot, .int .i64 oe] 27)) w.heap.size [.int .i64 3, .string tx, .int .i64 n, .int .i64 to1, .slice aa al ac, .int .i64 ot, .int .i64 oe] 27 ∧ Below w.heap.size w (w.alloc (.cells #[.int .i64 3, .string tx, .int .i64 n, .int .i64 to1, .slice aa al ac, .int .i64 ot, .int .i64 oe] 27))) := Lib.hid ⟨Blk.newA _ _ _, (Below.refl _ _).alloc (Nat.le_refl _) _⟩
          revert HB
          generalize (w.alloc (.cells #[.int .i64 3, .string tx, .int .i64 n, .int .i64 to1, .slice aa al ac, .int .i64 ot, .int .i64 oe] 27)) = W0
          intro HB
          have c0 := HB.out.1.cell (i := 0) rfl
          go_upto_region 3 with (first | (go_at_call 12; refine (pg_word _ s HW.out _).mono ?_; rintro e W2 ⟨rfl, rfl⟩) | fail)
          clear c0
          cases b with
          | false =>
            obtain rfl : 2 = e := by simpa using he
            clear he
            refine wp_region_class (fun w' => Blk w' w.heap.size [.int .i64 3, .string tx, .int .i64 n, .int .i64 to1, .slice aa al ac, .int .i64 ot, .int .i64 oe] 27 ∧ Below w.heap.size w w') (by kernel_rfl) (by kernel_rfl) ⟨HB.out.1.drew, HB.out.2.drew⟩ ?_
            repeat (first
                | go_big_quiet_skip
                | (go_big_quiet_want
                   unfold Oper.quiet
                   apply Exists.intro
                   refine ⟨fun wq hwq => ?_, ?_⟩
                   · (have c0 := hwq.1.cell (i := 0) rfl
                      have c1 := hwq.1.cell (i := 1) rfl
                      have c2 := hwq.1.cell (i := 2) rfl
                      have c3 := hwq.1.cell (i := 3) rfl
                      have c4 := hwq.1.cell (i := 4) rfl
                      have c5 := hwq.1.cell (i := 5) rfl
                      have c6 := hwq.1.cell (i := 6) rfl
                      unfold Oper.quietAt
                      go_simp
                      first
                        | exact ⟨rfl, hwq⟩
                        | exact rfl
                        | (go_at_call 26; refine (pg_own3 3 tx n to1 aa al ac ot oe rfl _).mono ?_; rintro e w3 ⟨he, hb⟩; exact ⟨he, hwq.1.below hb hwq.1.lt, hwq.2.trans (hb.mono hwq.2.size)⟩)
                        | (go_at_call 24; refine (pg_sameop 3 3 tx ⟨#[]⟩ n 0 to1 to1 aa none al 0 ac 0 ot 0 oe 0 ar [] HL.out.1 rfl hal _ HS.out _ (HL.out.2.below hwq.2) (AL.nil _ _)).mono ?_; rintro e w3 ⟨he, hb⟩; exact ⟨he, hwq.1.below hb hwq.1.lt, hwq.2.trans (hb.mono hwq.2.size)⟩))
                   simp only [Act.put, List.setIfInBounds_toArray, List.set_cons_zero, List.set_cons_succ]
                   go_big_quiet_on))
            refine wpQuiet_nil ?_
            intro w4 hw4
            have HX := Lib.hid hw4
            clear hw4 HB
            go_wp2_with fail
            go_ret
            exact ⟨rfl, HX.out.2⟩
          | true =>
            simp only [Bool.true_eq_false, if_false] at he
            obtain ⟨bt, hbt⟩ : ∃ b, Pg.inB to1 0 N = b := ⟨_, rfl⟩
            rw [hbt] at he
            have HT := Lib.hid hbt
            clear hbt
            refine wp_region_class (fun w' => Blk w' w.heap.size [.int .i64 3, .string tx, .int .i64 n, .int .i64 to1, .slice aa al ac, .int .i64 ot, .int .i64 oe] 27 ∧ Below w.heap.size w w') (by kernel_rfl) (by kernel_rfl) ⟨HB.out.1.drew, HB.out.2.drew⟩ ?_
            repeat (first
                | go_big_quiet_skip
                | (go_big_quiet_want
                   unfold Oper.quiet
                   apply Exists.intro
                   refine ⟨fun wq hwq => ?_, ?_⟩
                   · (have c0 := hwq.1.cell (i := 0) rfl
                      have c1 := hwq.1.cell (i := 1) rfl
                      have c2 := hwq.1.cell (i := 2) rfl
                      have c3 := hwq.1.cell (i := 3) rfl
                      have c4 := hwq.1.cell (i := 4) rfl
                      have c5 := hwq.1.cell (i := 5) rfl
                      have c6 := hwq.1.cell (i := 6) rfl
                      unfold Oper.quietAt
                      go_simp
                      first
                        | exact ⟨rfl, hwq⟩
                        | exact rfl
                        | (go_at_call 26; refine (pg_own3 3 tx n to1 aa al ac ot oe rfl _).mono ?_; rintro e w3 ⟨he, hb⟩; exact ⟨he, hwq.1.below hb hwq.1.lt, hwq.2.trans (hb.mono hwq.2.size)⟩)
                        | (go_at_call 24; refine (pg_sameop 3 3 tx ⟨#[]⟩ n 0 to1 to1 aa none al 0 ac 0 ot 0 oe 0 ar [] HL.out.1 rfl hal _ HS.out _ (HL.out.2.below hwq.2) (AL.nil _ _)).mono ?_; rintro e w3 ⟨he, hb⟩; exact ⟨he, hwq.1.below hb hwq.1.lt, hwq.2.trans (hb.mono hwq.2.size)⟩))
                   simp only [Act.put, List.setIfInBounds_toArray, List.set_cons_zero, List.set_cons_succ]
                   go_big_quiet_on))
            refine wpQuiet_nil ?_
            intro w4 hw4
            have HX := Lib.hid hw4
            clear hw4 HB
            have c0 := HX.out.1.cell (i := 0) rfl
            have c1 := HX.out.1.cell (i := 1) rfl
            have c2 := HX.out.1.cell (i := 2) rfl
            have c3 := HX.out.1.cell (i := 3) rfl
            have c4 := HX.out.1.cell (i := 4) rfl
            have c5 := HX.out.1.cell (i := 5) rfl
            have c6 := HX.out.1.cell (i := 6) rfl
            cases bt with
            | true =>
              obtain rfl : 0 = e := by simpa using he
              clear he
              go_wp2_with (first | (go_at_call 17; refine (pg_inn to1 0 N _ HT.out _).mono ?_; rintro r W5 ⟨rfl, rfl⟩) | fail)
              go_ret
              exact ⟨rfl, HX.out.2⟩
            | false =>
              obtain rfl : 13 = e := by simpa using he
              clear he
              go_wp2_with (first | (go_at_call 17; refine (pg_inn to1 0 N _ HT.out _).mono ?_; rintro r W5 ⟨rfl, rfl⟩) | fail)
              go_ret
              exact ⟨rfl, HX.out.2⟩
        · by_cases h4 : k = 4
          · subst h4
            clear h1 h2 h3
            have HL := Lib.hid (And.intro hl HA)
            obtain ⟨b, hb⟩ : ∃ b, Pg.same ⟨4, tx, n, to1, ar, ot, oe⟩ (Pg.own ⟨4, tx, n, to1, ar, ot, oe⟩) = b := ⟨_, rfl⟩
            unfold Pg.wOp at he
            dsimp only at he
            rw [if_neg (by rw [hw]; omega), hb] at he
            have HS : Hid (Pg.same ⟨4, tx, n, to1, ar, ot, oe⟩ ⟨4, ⟨#[]⟩, n, 0, [], 0, 0⟩ = b) := Lib.hid (by rw [← hb]; rfl)
            simp only [if_true, if_neg (show ¬ (4 : Int) = 1 by decide), if_neg (show ¬ (4 : Int) = 2 by decide), if_neg (show ¬ (4 : Int) = 3 by decide)] at he
            have HW := Lib.hid hw
            clear hb hw hl HA
            go_enter Try.func18, Try.ntmps18
            go_upto_region 1 with fail
            have HB : Hid (Blk (w.alloc (.cells #[.int .i64 4, .string tx, .int .i64 n, .int .i64 to1, .slice aa al ac, .int .i64 ot, .int .i64 oe] 27)) w.heap.size [.int .i64 4, .string tx, .int .i64 n, .int .i64 to1, .slice aa al ac, .int .i64 ot, .int .i64 oe] 27 ∧ Below w.heap.size w (w.alloc (.cells #[.int .i64 4, .string tx, .int .i64 n, .int .i64 to1, .slice aa al ac, .int .i64 ot, .int .i64 oe] 27))) := Lib.hid ⟨Blk.newA _ _ _, (Below.refl _ _).alloc (Nat.le_refl _) _⟩
            revert HB
            generalize (w.alloc (.cells #[.int .i64 4, .string tx, .int .i64 n, .int .i64 to1, .slice aa al ac, .int .i64 ot, .int .i64 oe] 27)) = W0
            intro HB
            have c0 := HB.out.1.cell (i := 0) rfl
            go_upto_region 3 with (first | (go_at_call 12; refine (pg_word _ s HW.out _).mono ?_; rintro e W2 ⟨rfl, rfl⟩) | fail)
            clear c0
            cases b with
            | false =>
              obtain rfl : 2 = e := by simpa using he
              clear he
              refine wp_region_class (fun w' => Blk w' w.heap.size [.int .i64 4, .string tx, .int .i64 n, .int .i64 to1, .slice aa al ac, .int .i64 ot, .int .i64 oe] 27 ∧ Below w.heap.size w w') (by kernel_rfl) (by kernel_rfl) ⟨HB.out.1.drew, HB.out.2.drew⟩ ?_
              repeat (first
                  | go_big_quiet_skip
                  | (go_big_quiet_want
                     unfold Oper.quiet
                     apply Exists.intro
                     refine ⟨fun wq hwq => ?_, ?_⟩
                     · (have c0 := hwq.1.cell (i := 0) rfl
                        have c1 := hwq.1.cell (i := 1) rfl
                        have c2 := hwq.1.cell (i := 2) rfl
                        have c3 := hwq.1.cell (i := 3) rfl
                        have c4 := hwq.1.cell (i := 4) rfl
                        have c5 := hwq.1.cell (i := 5) rfl
                        have c6 := hwq.1.cell (i := 6) rfl
                        unfold Oper.quietAt
                        go_simp
                        first
                          | exact ⟨rfl, hwq⟩
                          | exact rfl
                          | (go_at_call 26; refine (pg_own4 4 tx n to1 aa al ac ot oe rfl _).mono ?_; rintro e w3 ⟨he, hb⟩; exact ⟨he, hwq.1.below hb hwq.1.lt, hwq.2.trans (hb.mono hwq.2.size)⟩)
                          | (go_at_call 24; refine (pg_sameop 4 4 tx ⟨#[]⟩ n n to1 0 aa none al 0 ac 0 ot 0 oe 0 ar [] HL.out.1 rfl hal _ HS.out _ (HL.out.2.below hwq.2) (AL.nil _ _)).mono ?_; rintro e w3 ⟨he, hb⟩; exact ⟨he, hwq.1.below hb hwq.1.lt, hwq.2.trans (hb.mono hwq.2.size)⟩))
                     simp only [Act.put, List.setIfInBounds_toArray, List.set_cons_zero, List.set_cons_succ]
                     go_big_quiet_on))
              refine wpQuiet_nil ?_
              intro w4 hw4
              have HX := Lib.hid hw4
              clear hw4 HB
              go_wp2_with fail
              go_ret
              exact ⟨rfl, HX.out.2⟩
            | true =>
              simp only [Bool.true_eq_false, if_false] at he
              obtain ⟨bt, hbt⟩ : ∃ b, Pg.inB n 0 1000000000000 = b := ⟨_, rfl⟩
              rw [hbt] at he
              have HT := Lib.hid hbt
              clear hbt
              refine wp_region_class (fun w' => Blk w' w.heap.size [.int .i64 4, .string tx, .int .i64 n, .int .i64 to1, .slice aa al ac, .int .i64 ot, .int .i64 oe] 27 ∧ Below w.heap.size w w') (by kernel_rfl) (by kernel_rfl) ⟨HB.out.1.drew, HB.out.2.drew⟩ ?_
              repeat (first
                  | go_big_quiet_skip
                  | (go_big_quiet_want
                     unfold Oper.quiet
                     apply Exists.intro
                     refine ⟨fun wq hwq => ?_, ?_⟩
                     · (have c0 := hwq.1.cell (i := 0) rfl
                        have c1 := hwq.1.cell (i := 1) rfl
                        have c2 := hwq.1.cell (i := 2) rfl
                        have c3 := hwq.1.cell (i := 3) rfl
                        have c4 := hwq.1.cell (i := 4) rfl
                        have c5 := hwq.1.cell (i := 5) rfl
                        have c6 := hwq.1.cell (i := 6) rfl
                        unfold Oper.quietAt
                        go_simp
                        first
                          | exact ⟨rfl, hwq⟩
                          | exact rfl
                          | (go_at_call 26; refine (pg_own4 4 tx n to1 aa al ac ot oe rfl _).mono ?_; rintro e w3 ⟨he, hb⟩; exact ⟨he, hwq.1.below hb hwq.1.lt, hwq.2.trans (hb.mono hwq.2.size)⟩)
                          | (go_at_call 24; refine (pg_sameop 4 4 tx ⟨#[]⟩ n n to1 0 aa none al 0 ac 0 ot 0 oe 0 ar [] HL.out.1 rfl hal _ HS.out _ (HL.out.2.below hwq.2) (AL.nil _ _)).mono ?_; rintro e w3 ⟨he, hb⟩; exact ⟨he, hwq.1.below hb hwq.1.lt, hwq.2.trans (hb.mono hwq.2.size)⟩))
                     simp only [Act.put, List.setIfInBounds_toArray, List.set_cons_zero, List.set_cons_succ]
                     go_big_quiet_on))
              refine wpQuiet_nil ?_
              intro w4 hw4
              have HX := Lib.hid hw4
              clear hw4 HB
              have c0 := HX.out.1.cell (i := 0) rfl
              have c1 := HX.out.1.cell (i := 1) rfl
              have c2 := HX.out.1.cell (i := 2) rfl
              have c3 := HX.out.1.cell (i := 3) rfl
              have c4 := HX.out.1.cell (i := 4) rfl
              have c5 := HX.out.1.cell (i := 5) rfl
              have c6 := HX.out.1.cell (i := 6) rfl
              cases bt with
              | true =>
                obtain rfl : 0 = e := by simpa using he
                clear he
                go_wp2_with (first | (go_at_call 16; refine (pg_ini n 0 1000000000000 _ HT.out _).mono ?_; rintro r W5 ⟨rfl, rfl⟩) | fail)
                go_ret
                exact ⟨rfl, HX.out.2⟩
              | false =>
                obtain rfl : 12 = e := by simpa using he
                clear he
                go_wp2_with (first | (go_at_call 16; refine (pg_ini n 0 1000000000000 _ HT.out _).mono ?_; rintro r W5 ⟨rfl, rfl⟩) | fail)
                go_ret
                exact ⟨rfl, HX.out.2⟩
          · skip
            have HL := Lib.hid (And.intro hl HA)
            obtain ⟨b, hb⟩ : ∃ b, Pg.same ⟨k, tx, n, to1, ar, ot, oe⟩ (Pg.own ⟨k, tx, n, to1, ar, ot, oe⟩) = b := ⟨_, rfl⟩
            unfold Pg.wOp at he
            dsimp only at he
            rw [if_neg (by rw [hw]; omega), hb] at he
            have HS : Hid (Pg.same ⟨k, tx, n, to1, ar, ot, oe⟩ ⟨k, ⟨#[]⟩, 0, 0, [], 0, 0⟩ = b) := Lib.hid (by rw [← hb]; unfold Pg.own; dsimp only; rw [if_neg h1, if_neg h2, if_neg h3, if_neg h4])
            have g1 : (k == 1) = false := by simpa using h1
            have g2 : (k == 2) = false := by simpa using h2
            have g3 : (k == 3) = false := by simpa using h3
            have g4 : (k == 4) = false := by simpa using h4
            have HN := Lib.hid (And.intro h1 (And.intro h2 (And.intro h3 h4)))
            rw [if_neg h1, if_neg h2, if_neg h3, if_neg h4] at he
            clear h1 h2 h3 h4
            have HW := Lib.hid hw
            clear hb hw hl HA
            go_enter Try.func18, Try.ntmps18
            go_upto_region 1 with fail
            have HB : Hid (Blk (w.alloc (.cells #[.int .i64 k, .string tx, .int .i64 n, .int .i64 to1, .slice aa al ac, .int .i64 ot, .int .i64 oe] 27)) w.heap.size [.int .i64 k, .string tx, .int .i64 n, .int .i64 to1, .slice aa al ac, .int .i64 ot, .int .i64 oe] 27 ∧ Below w.heap.size w (w.alloc (.cells #[.int .i64 k, .string tx, .int .i64 n, .int .i64 to1, .slice aa al ac, .int .i64 ot, .int .i64 oe] 27))) := Lib.hid ⟨Blk.newA _ _ _, (Below.refl _ _).alloc (Nat.le_refl _) _⟩
            revert HB
            generalize (w.alloc (.cells #[.int .i64 k, .string tx, .int .i64 n, .int .i64 to1, .slice aa al ac, .int .i64 ot, .int .i64 oe] 27)) = W0
            intro HB
            have c0 := HB.out.1.cell (i := 0) rfl
            go_upto_region 3 with (first | (go_at_call 12; refine (pg_word _ s HW.out _).mono ?_; rintro e W2 ⟨rfl, rfl⟩) | fail)
            clear c0
            cases b with
            | false =>
              obtain rfl : 2 = e := by simpa using he
              clear he
              refine wp_region_class (fun w' => Blk w' w.heap.size [.int .i64 k, .string tx, .int .i64 n, .int .i64 to1, .slice aa al ac, .int .i64 ot, .int .i64 oe] 27 ∧ Below w.heap.size w w') (by kernel_rfl) (by kernel_rfl) ⟨HB.out.1.drew, HB.out.2.drew⟩ ?_
              repeat (first
                  | go_big_quiet_skip
                  | (go_big_quiet_want
                     unfold Oper.quiet
                     apply Exists.intro
                     refine ⟨fun wq hwq => ?_, ?_⟩
                     · (have c0 := hwq.1.cell (i := 0) rfl
                        have c1 := hwq.1.cell (i := 1) rfl
                        have c2 := hwq.1.cell (i := 2) rfl
                        have c3 := hwq.1.cell (i := 3) rfl
                        have c4 := hwq.1.cell (i := 4) rfl
                        have c5 := hwq.1.cell (i := 5) rfl
                        have c6 := hwq.1.cell (i := 6) rfl
                        unfold Oper.quietAt
                        go_simp
                        first
                          | exact ⟨rfl, hwq⟩
                          | exact rfl
                          | (go_at_call 26; refine (pg_own5 k tx n to1 aa al ac ot oe HN.out.1 HN.out.2.1 HN.out.2.2.1 HN.out.2.2.2 _).mono ?_; rintro e w3 ⟨he, hb⟩; exact ⟨he, hwq.1.below hb hwq.1.lt, hwq.2.trans (hb.mono hwq.2.size)⟩)
                          | (go_at_call 24; refine (pg_sameop k k tx ⟨#[]⟩ n 0 to1 0 aa none al 0 ac 0 ot 0 oe 0 ar [] HL.out.1 rfl hal _ HS.out _ (HL.out.2.below hwq.2) (AL.nil _ _)).mono ?_; rintro e w3 ⟨he, hb⟩; exact ⟨he, hwq.1.below hb hwq.1.lt, hwq.2.trans (hb.mono hwq.2.size)⟩))
                     simp only [Act.put, List.setIfInBounds_toArray, List.set_cons_zero, List.set_cons_succ]
                     go_big_quiet_on))
              refine wpQuiet_nil ?_
              intro w4 hw4
              have HX := Lib.hid hw4
              clear hw4 HB
              go_wp2_with fail
              go_ret
              exact ⟨rfl, HX.out.2⟩
            | true =>
              simp only [Bool.true_eq_false, if_false] at he
              subst he
              refine wp_region_class (fun w' => Blk w' w.heap.size [.int .i64 k, .string tx, .int .i64 n, .int .i64 to1, .slice aa al ac, .int .i64 ot, .int .i64 oe] 27 ∧ Below w.heap.size w w') (by kernel_rfl) (by kernel_rfl) ⟨HB.out.1.drew, HB.out.2.drew⟩ ?_
              repeat (first
                  | go_big_quiet_skip
                  | (go_big_quiet_want
                     unfold Oper.quiet
                     apply Exists.intro
                     refine ⟨fun wq hwq => ?_, ?_⟩
                     · (have c0 := hwq.1.cell (i := 0) rfl
                        have c1 := hwq.1.cell (i := 1) rfl
                        have c2 := hwq.1.cell (i := 2) rfl
                        have c3 := hwq.1.cell (i := 3) rfl
                        have c4 := hwq.1.cell (i := 4) rfl
                        have c5 := hwq.1.cell (i := 5) rfl
                        have c6 := hwq.1.cell (i := 6) rfl
                        unfold Oper.quietAt
                        go_simp
                        first
                          | exact ⟨rfl, hwq⟩
                          | exact rfl
                          | (go_at_call 26; refine (pg_own5 k tx n to1 aa al ac ot oe HN.out.1 HN.out.2.1 HN.out.2.2.1 HN.out.2.2.2 _).mono ?_; rintro e w3 ⟨he, hb⟩; exact ⟨he, hwq.1.below hb hwq.1.lt, hwq.2.trans (hb.mono hwq.2.size)⟩)
                          | (go_at_call 24; refine (pg_sameop k k tx ⟨#[]⟩ n 0 to1 0 aa none al 0 ac 0 ot 0 oe 0 ar [] HL.out.1 rfl hal _ HS.out _ (HL.out.2.below hwq.2) (AL.nil _ _)).mono ?_; rintro e w3 ⟨he, hb⟩; exact ⟨he, hwq.1.below hb hwq.1.lt, hwq.2.trans (hb.mono hwq.2.size)⟩))
                     simp only [Act.put, List.setIfInBounds_toArray, List.set_cons_zero, List.set_cons_succ]
                     go_big_quiet_on))
              refine wpQuiet_nil ?_
              intro w4 hw4
              have HX := Lib.hid hw4
              clear hw4 HB
              have c0 := HX.out.1.cell (i := 0) rfl
              have c1 := HX.out.1.cell (i := 1) rfl
              have c2 := HX.out.1.cell (i := 2) rfl
              have c3 := HX.out.1.cell (i := 3) rfl
              have c4 := HX.out.1.cell (i := 4) rfl
              have c5 := HX.out.1.cell (i := 5) rfl
              have c6 := HX.out.1.cell (i := 6) rfl
              go_wp2_with fail
              go_ret
              exact ⟨rfl, HX.out.2⟩
end Go.Proofs.Ytoniipmgkoogbaa
