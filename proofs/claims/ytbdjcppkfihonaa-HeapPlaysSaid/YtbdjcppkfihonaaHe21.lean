/- Heap: what is told of a heap. -/
import Derived.Test.YtbdjcppkfihonaaHe20
import Derived.WalkKit
import Derived.ProofKit
import Derived.Handy
import Derived.WalkLawsBesides
import Derived.WalkSpells
import Derived.Lib.Hide
import Derived.RegionTactic
import Derived.ChangeAlike
import Derived.WalkSmall
import Derived.Deep.QuietTactic
import Derived.BigQuiet
import Derived.OwnWalk
import Derived.Outline
import Derived.Deep.CutRange
import Derived.Deep.CutBlock
import Derived.LoopTactic
namespace Go.Proofs.Ytbdjcppkfihonaa
open Go.ChangeShapes Go.WideShapes Go.ChangeAt Go.RowKit
set_option linter.unusedSimpArgs false
set_option linter.unusedVariables false

set_option maxRecDepth 20000 in
set_option maxHeartbeats 4000000 in
theorem rf_same_nil (c e : Nat) (r a : Option Addr) (w : World) : Calls Try.prog 23 #[.slice r 0 c, .slice a 0 e] w fun e w' => e = .returned (.bool true) ∧ Below w.heap.size w w' := by
  have hnb : ((0 : Int) != 0) = false := by simp
  go_enter Try.func23, Try.ntmps23
  go_wp2_with fail
  go_loopw [5] (fun iv wr => iv = .int .i64 0 ∧ w = wr) (fun _ _ => 0)
  case atStart => exact ⟨rfl, rfl⟩
  case round =>
    obtain ⟨rfl, rfl⟩ := hrel
    go_wp2
    go_ret
    exact ⟨rfl, Below.refl _ _⟩
theorem EA.c {w : World} {a : Option Addr} {l : List (Int × Int)} (h : EA w a l) {j : Nat} {x1 x2 : Int} (hj : l[j]? = some (x1, x2)) {g o : Nat} (ha : a = some ⟨g, o, none⟩) : w.cell? ⟨g, o + j * 2, none⟩ = some (.int .i64 x1) ∧ w.cell? ⟨g, o + j * 2 + 1, none⟩ = some (.int .i64 x2) := by
  obtain ⟨g2, o2, h1, h2, h3⟩ := h.2 j x1 x2 hj
  rw [ha] at h1
  injection h1 with h1; injection h1 with h1 h1b
  subst h1; subst h1b
  exact ⟨h2, h3⟩
theorem EA.c0 {w : World} {a : Option Addr} {l : List (Int × Int)} (h : EA w a l) {x1 x2 : Int} (hj : l[0]? = some (x1, x2)) {g o : Nat} (ha : a = some ⟨g, o, none⟩) : w.cell? ⟨g, o, none⟩ = some (.int .i64 x1) ∧ w.cell? ⟨g, o + 1, none⟩ = some (.int .i64 x2) := by
  have := h.c hj ha
  rw [Nat.zero_mul, Nat.add_zero] at this
  exact this
theorem find_mem {k : Nat} {l : List (Int × Int)} (ok : He.ok k l) {id : Int} (h : He.at l id ≠ 9223372036854775807) : ∃ i : Nat, He.find l id = i ∧ l[i]? = some (He.at l id, id) := by
  obtain ⟨i, hi⟩ := List.mem_iff_getElem?.1 (at_is h)
  refine ⟨i, find_some hi fun j x hj hx e => ?_, hi⟩
  have h1 : (x.1, id) ∈ l := by rw [← e]; exact List.mem_of_getElem? hx
  have hil : i < l.length := (List.getElem?_eq_some_iff.1 hi).1
  have h2 := List.pairwise_iff_getElem.1 ok.nod j i (by rw [List.length_map]; omega) (by rw [List.length_map]; exact hil) hj
  rw [List.getElem_map, List.getElem_map] at h2
  rw [List.getElem?_eq_getElem (by omega)] at hx hi
  injection hx with hx; injection hi with hi
  rw [hx, hi] at h2
  exact h2 e
theorem find_not {l : List (Int × Int)} {k : Nat} (ok : He.ok k l) {id : Int} (h : He.at l id = 9223372036854775807) : He.find l id = -1 := find_none fun i x hx e => by
  have h1 : (x.1, id) ∈ l := by rw [← e]; exact List.mem_of_getElem? hx
  exact at_no ok h x.1 h1
/-- Same, of a list that was just made. -/
theorem rf_same_er (l : List (Int × Int)) (n c e : Nat) (hn : l.length = n) (hn6 : n ≤ 1000000) (r a : Option Addr) (w : World) (h : ER w r l) (h2 : EA w a l) : Calls Try.prog 23 #[.slice r n c, .slice a n e] w fun e w' => e = .returned (.bool true) ∧ Below w.heap.size w w' := by
  rcases h with rfl | ⟨g, rfl, hg, hc⟩
  · have h0 : EA w none [] := EA.nil w
    obtain rfl : n = 0 := hn.symm
    exact rf_same_nil c e r a w
  · exact rf_same5 l l n c n e hn hn hn6 _ a true (by simp) w (ER.ea (Or.inr ⟨g, rfl, hg, hc⟩) (by rw [rvB_some]; simp; exact hg)) h2
set_option maxRecDepth 100000 in
set_option maxHeartbeats 8000000 in
theorem told5 (p ga k n c : Nat) (r : Option Addr) (l : List (Int × Int)) (a : Option Addr) (cc : Nat) (ask : Int) (w : World) (h : HP w p ga k n c r l) (h2 : EA w a l) : Calls Try.prog 15 #[.pointer (some ⟨p, 0, none⟩), .slice a n cc, .int .i64 ask] w fun e w' => e = .returned (.bool true) ∧ Below w.heap.size w w' := by
  have H := Lib.hid (And.intro h h2)
  have hn6 : n ≤ 1024 := by have := h.nk; have := h.k1.2; omega
  obtain ⟨⟨x1, x2⟩, hx⟩ : ∃ x, He.hd l = x := ⟨_, rfl⟩
  obtain ⟨b, hb⟩ : ∃ b, decide (0 < l.length) = b := ⟨_, rfl⟩
  have HM := Lib.hid (And.intro hx hb)
  cases b with
  | false =>
    have hl : l = [] := List.length_eq_zero_iff.1 (by have := of_decide_eq_false hb; omega)
    subst hl
    obtain rfl : n = 0 := h.len.symm
    obtain ⟨rfl, rfl⟩ : x1 = 0 ∧ x2 = 0 := by simp [He.hd] at hx; exact ⟨hx.1.symm, hx.2.symm⟩
    have HAt : Hid (∀ W, HP W p ga k 0 c r [] → Calls Try.prog 27 #[.pointer (some ⟨p, 0, none⟩), .int .i64 ask] W fun e w' => e = .returned (.tuple #[.int .i64 0, .bool false]) ∧ w' = W) := Lib.hid fun W hW => hW.at ask
    have HFi : Hid (He.find [] ask = -1) := Lib.hid rfl
    clear h h2 hx hb
    go_enter Try.func15, Try.ntmps15
    go_wp2_with fail
    refine (he_min p ga k 0 c r [] 0 0 HM.out.1 false HM.out.2 _ H.out.1).mono ?_
    rintro e W1 ⟨rfl, b1⟩
    have HB : Hid (Blk (W1.alloc (.cells #[.int .i64 0, .int .i64 0] 38)) W1.heap.size [.int .i64 0, .int .i64 0] 38 ∧ EA (W1.alloc (.cells #[.int .i64 0, .int .i64 0] 38)) a [] ∧ HP (W1.alloc (.cells #[.int .i64 0, .int .i64 0] 38)) p ga k 0 c r [] ∧ Below w.heap.size w (W1.alloc (.cells #[.int .i64 0, .int .i64 0] 38))) := Lib.hid (by
      have q0 := (Below.refl W1.heap.size W1).alloc (Nat.le_refl _) (.cells #[.int .i64 0, .int .i64 0] 38)
      exact ⟨Blk.newA W1 _ _, (H.out.2.below b1).below q0, (H.out.1.below b1).below q0, b1.alloc b1.size _⟩)
    clear b1
    go_wp2_with fail
    revert HB
    generalize (W1.alloc (.cells #[.int .i64 0, .int .i64 0] 38)) = W2
    obtain ⟨B, hB⟩ : ∃ B, W1.heap.size = B := ⟨_, rfl⟩
    rw [hB]
    intro HB
    clear hB
    refine (HAt.out _ HB.out.2.2.1).mono ?_
    rintro e W3 ⟨rfl, h3⟩
    obtain rfl := h3
    go_wp2_with fail
    refine (rf_find5 [] 0 cc rfl (by omega) a ask _ HB.out.2.1).mono ?_
    rintro e W4 ⟨rfl, rfl⟩
    rw [HFi.out]
    go_wp2_with fail
    refine wp_region_class (fun w' => Blk w' B [.int .i64 0, .int .i64 0] 38 ∧ EA w' a [] ∧ HP w' p ga k 0 c r [] ∧ Below w.heap.size w w') (by kernel_rfl) (by kernel_rfl) ⟨HB.out.1.drew, HB.out.2.1.drew, HB.out.2.2.1.drew, HB.out.2.2.2.drew⟩ ?_
    repeat (first
        | go_big_quiet_skip
        | (go_big_quiet_want
           unfold Oper.quiet
           apply Exists.intro
           refine ⟨fun wq hwq => ?_, ?_⟩
           · (obtain ⟨hq1, hq2, hq3, hq4⟩ := hwq
              have e1 := hq1.cell (i := 0) rfl
              have e2 := hq1.cell (i := 1) rfl
              try (have d0 := (EA.c0 hq2 HX.out rfl).1; have d1 := (EA.c0 hq2 HX.out rfl).2)
              try (have f0 := (EA.c hq2 HI.out.1 rfl).1; have f1 := (EA.c hq2 HI.out.1 rfl).2)
              unfold Oper.quietAt
              go_simp
              first
                | exact ⟨rfl, hq1, hq2, hq3, hq4⟩
                | exact rfl)
           simp only [Act.put, List.setIfInBounds_toArray, List.set_cons_zero, List.set_cons_succ]
           go_big_quiet_on))
    refine wpQuiet_nil ?_
    intro w4 hw4
    have HB4 := Lib.hid hw4
    clear hw4
    go_wp2_with (first
      | (go_at_call 31
         refine (he_list p ga k 0 c r [] _ HB4.out.2.2.1).mono ?_
         rintro e w5 ⟨r5, c5, rfl, q1, q2⟩
         have H5 : Hid (ER w5 r5 [] ∧ EA w5 a [] ∧ HP w5 p ga k 0 c r [] ∧ Below w.heap.size w w5) := Lib.hid ⟨q1, HB4.out.2.1.below q2, HB4.out.2.2.1.below q2, HB4.out.2.2.2.trans (q2.mono HB4.out.2.2.2.size)⟩
         clear q1 q2)
      | (go_at_call 23
         refine (rf_same_er [] 0 c5 cc H.out.1.len (by omega) r5 a _ H5.out.1 H5.out.2.1).mono ?_
         rintro e w6 ⟨rfl, b6⟩
         have H6 : Hid (HP w6 p ga k 0 c r [] ∧ Below w.heap.size w w6) := Lib.hid ⟨H5.out.2.2.1.below b6, H5.out.2.2.2.trans (b6.mono H5.out.2.2.2.size)⟩
         clear b6)
      | (go_at_call 26; refine (he_len p 0 c r _ H6.out.1.c0).mono ?_; rintro e w7 ⟨rfl, h7⟩; obtain rfl := h7))
    go_ret
    exact ⟨rfl, H6.out.2⟩
  | true =>
    have hlen : 0 < l.length := of_decide_eq_true hb
    have hx0 : l[0]? = some (x1, x2) := by
      cases l with
      | nil => simp at hlen
      | cons y l => simp [He.hd] at hx; rw [hx]; rfl
    have hn0 : 0 < n := by rw [← h.len]; exact hlen
    have nI : (0 : Int) < (n : Int) := by omega
    have HX := Lib.hid hx0
    obtain ⟨g, o, ha, _, _⟩ := h2.at hx0
    by_cases hat : He.at l ask = 9223372036854775807
    · have HAt : Hid (∀ W, HP W p ga k n c r l → Calls Try.prog 27 #[.pointer (some ⟨p, 0, none⟩), .int .i64 ask] W fun e w' => e = .returned (.tuple #[.int .i64 0, .bool false]) ∧ w' = W) := Lib.hid fun W hW => by have := hW.at ask; rw [if_pos hat] at this; exact this
      have HFi : Hid (He.find l ask = -1) := Lib.hid (find_not h.ok hat)
      have HI : Hid (l[0]? = some (x1, x2) ∧ True) := Lib.hid ⟨hx0, trivial⟩
      clear h h2 hx hb hlen hx0 hat
      subst ha
      have ha : (some ⟨g, o, none⟩ : Option Addr) = some ⟨g, o, none⟩ := rfl
      go_enter Try.func15, Try.ntmps15
      go_wp2_with fail
      refine (he_min p ga k n c r l x1 x2 HM.out.1 true HM.out.2 _ H.out.1).mono ?_
      rintro e W1 ⟨rfl, b1⟩
      have HB : Hid (Blk (W1.alloc (.cells #[.int .i64 x1, .int .i64 x2] 38)) W1.heap.size [.int .i64 x1, .int .i64 x2] 38 ∧ EA (W1.alloc (.cells #[.int .i64 x1, .int .i64 x2] 38)) (some ⟨g, o, none⟩) l ∧ HP (W1.alloc (.cells #[.int .i64 x1, .int .i64 x2] 38)) p ga k n c r l ∧ Below w.heap.size w (W1.alloc (.cells #[.int .i64 x1, .int .i64 x2] 38))) := Lib.hid (by
        have q0 := (Below.refl W1.heap.size W1).alloc (Nat.le_refl _) (.cells #[.int .i64 x1, .int .i64 x2] 38)
        exact ⟨Blk.newA W1 _ _, (H.out.2.below b1).below q0, (H.out.1.below b1).below q0, b1.alloc b1.size _⟩)
      clear b1
      go_wp2_with fail
      revert HB
      generalize (W1.alloc (.cells #[.int .i64 x1, .int .i64 x2] 38)) = W2
      obtain ⟨B, hB⟩ : ∃ B, W1.heap.size = B := ⟨_, rfl⟩
      rw [hB]
      intro HB
      clear hB
      refine (HAt.out _ HB.out.2.2.1).mono ?_
      rintro e W3 ⟨rfl, h3⟩
      obtain rfl := h3
      go_wp2_with fail
      refine (rf_find5 l n cc HB.out.2.2.1.len (by omega) _ ask _ HB.out.2.1).mono ?_
      rintro e W4 ⟨rfl, rfl⟩
      rw [HFi.out]
      go_wp2_with fail
      refine wp_region_class (fun w' => Blk w' B [.int .i64 x1, .int .i64 x2] 38 ∧ EA w' (some ⟨g, o, none⟩) l ∧ HP w' p ga k n c r l ∧ Below w.heap.size w w') (by kernel_rfl) (by kernel_rfl) ⟨HB.out.1.drew, HB.out.2.1.drew, HB.out.2.2.1.drew, HB.out.2.2.2.drew⟩ ?_
      repeat (first
          | go_big_quiet_skip
          | (go_big_quiet_want
             unfold Oper.quiet
             apply Exists.intro
             refine ⟨fun wq hwq => ?_, ?_⟩
             · (obtain ⟨hq1, hq2, hq3, hq4⟩ := hwq
                have e1 := hq1.cell (i := 0) rfl
                have e2 := hq1.cell (i := 1) rfl
                try (have d0 := (EA.c0 hq2 HX.out rfl).1; have d1 := (EA.c0 hq2 HX.out rfl).2)
                try (have f0 := (EA.c hq2 HI.out.1 rfl).1; have f1 := (EA.c hq2 HI.out.1 rfl).2)
                unfold Oper.quietAt
                go_simp
                first
                  | exact ⟨rfl, hq1, hq2, hq3, hq4⟩
                  | exact rfl)
             simp only [Act.put, List.setIfInBounds_toArray, List.set_cons_zero, List.set_cons_succ]
             go_big_quiet_on))
      refine wpQuiet_nil ?_
      intro w4 hw4
      have HB4 := Lib.hid hw4
      clear hw4
      go_wp2_with (first
        | (go_at_call 31
           refine (he_list p ga k n c r l _ HB4.out.2.2.1).mono ?_
           rintro e w5 ⟨r5, c5, rfl, q1, q2⟩
           have H5 : Hid (ER w5 r5 l ∧ EA w5 (some ⟨g, o, none⟩) l ∧ HP w5 p ga k n c r l ∧ Below w.heap.size w w5) := Lib.hid ⟨q1, HB4.out.2.1.below q2, HB4.out.2.2.1.below q2, HB4.out.2.2.2.trans (q2.mono HB4.out.2.2.2.size)⟩
           clear q1 q2)
        | (go_at_call 23
           refine (rf_same_er l n c5 cc H.out.1.len (by omega) r5 _ _ H5.out.1 H5.out.2.1).mono ?_
           rintro e w6 ⟨rfl, b6⟩
           have H6 : Hid (HP w6 p ga k n c r l ∧ Below w.heap.size w w6) := Lib.hid ⟨H5.out.2.2.1.below b6, H5.out.2.2.2.trans (b6.mono H5.out.2.2.2.size)⟩
           clear b6)
        | (go_at_call 26; refine (he_len p n c r _ H6.out.1.c0).mono ?_; rintro e w7 ⟨rfl, h7⟩; obtain rfl := h7))
      go_ret
      exact ⟨rfl, H6.out.2⟩
    · obtain ⟨i, hfi, hi⟩ := find_mem h.ok hat
      obtain ⟨t, ht⟩ : ∃ t, He.at l ask = t := ⟨_, rfl⟩
      have HAt : Hid (∀ W, HP W p ga k n c r l → Calls Try.prog 27 #[.pointer (some ⟨p, 0, none⟩), .int .i64 ask] W fun e w' => e = .returned (.tuple #[.int .i64 t, .bool true]) ∧ w' = W) := Lib.hid fun W hW => by have := hW.at ask; rw [if_neg hat, ht] at this; exact this
      have HFi : Hid (He.find l ask = (i : Int)) := Lib.hid hfi
      have HI : Hid (l[i]? = some (t, ask) ∧ True) := Lib.hid ⟨by rw [← ht]; exact hi, trivial⟩
      have hin : i < n := by rw [← h.len]; exact (List.getElem?_eq_some_iff.1 hi).1
      have iI : (i : Int) < (n : Int) := by omega
      have i0 : (0 : Int) ≤ (i : Int) := by omega
      have tt : (t != t) = false := by simp
      clear h h2 hx hb hlen hx0 hat hi hfi ht
      subst ha
      have ha : (some ⟨g, o, none⟩ : Option Addr) = some ⟨g, o, none⟩ := rfl
      go_enter Try.func15, Try.ntmps15
      go_wp2_with fail
      refine (he_min p ga k n c r l x1 x2 HM.out.1 true HM.out.2 _ H.out.1).mono ?_
      rintro e W1 ⟨rfl, b1⟩
      have HB : Hid (Blk (W1.alloc (.cells #[.int .i64 x1, .int .i64 x2] 38)) W1.heap.size [.int .i64 x1, .int .i64 x2] 38 ∧ EA (W1.alloc (.cells #[.int .i64 x1, .int .i64 x2] 38)) (some ⟨g, o, none⟩) l ∧ HP (W1.alloc (.cells #[.int .i64 x1, .int .i64 x2] 38)) p ga k n c r l ∧ Below w.heap.size w (W1.alloc (.cells #[.int .i64 x1, .int .i64 x2] 38))) := Lib.hid (by
        have q0 := (Below.refl W1.heap.size W1).alloc (Nat.le_refl _) (.cells #[.int .i64 x1, .int .i64 x2] 38)
        exact ⟨Blk.newA W1 _ _, (H.out.2.below b1).below q0, (H.out.1.below b1).below q0, b1.alloc b1.size _⟩)
      clear b1
      go_wp2_with fail
      revert HB
      generalize (W1.alloc (.cells #[.int .i64 x1, .int .i64 x2] 38)) = W2
      obtain ⟨B, hB⟩ : ∃ B, W1.heap.size = B := ⟨_, rfl⟩
      rw [hB]
      intro HB
      clear hB
      refine (HAt.out _ HB.out.2.2.1).mono ?_
      rintro e W3 ⟨rfl, h3⟩
      obtain rfl := h3
      go_wp2_with fail
      refine (rf_find5 l n cc HB.out.2.2.1.len (by omega) _ ask _ HB.out.2.1).mono ?_
      rintro e W4 ⟨rfl, rfl⟩
      rw [HFi.out]
      go_wp2_with fail
      refine wp_region_class (fun w' => Blk w' B [.int .i64 x1, .int .i64 x2] 38 ∧ EA w' (some ⟨g, o, none⟩) l ∧ HP w' p ga k n c r l ∧ Below w.heap.size w w') (by kernel_rfl) (by kernel_rfl) ⟨HB.out.1.drew, HB.out.2.1.drew, HB.out.2.2.1.drew, HB.out.2.2.2.drew⟩ ?_
      repeat (first
          | go_big_quiet_skip
          | (go_big_quiet_want
             unfold Oper.quiet
             apply Exists.intro
             refine ⟨fun wq hwq => ?_, ?_⟩
             · (obtain ⟨hq1, hq2, hq3, hq4⟩ := hwq
                have e1 := hq1.cell (i := 0) rfl
                have e2 := hq1.cell (i := 1) rfl
                try (have d0 := (EA.c0 hq2 HX.out rfl).1; have d1 := (EA.c0 hq2 HX.out rfl).2)
                try (have f0 := (EA.c hq2 HI.out.1 rfl).1; have f1 := (EA.c hq2 HI.out.1 rfl).2)
                unfold Oper.quietAt
                go_simp
                first
                  | exact ⟨rfl, hq1, hq2, hq3, hq4⟩
                  | exact rfl)
             simp only [Act.put, List.setIfInBounds_toArray, List.set_cons_zero, List.set_cons_succ]
             go_big_quiet_on))
      refine wpQuiet_nil ?_
      intro w4 hw4
      have HB4 := Lib.hid hw4
      clear hw4
      go_wp2_with (first
        | (go_at_call 31
           refine (he_list p ga k n c r l _ HB4.out.2.2.1).mono ?_
           rintro e w5 ⟨r5, c5, rfl, q1, q2⟩
           have H5 : Hid (ER w5 r5 l ∧ EA w5 (some ⟨g, o, none⟩) l ∧ HP w5 p ga k n c r l ∧ Below w.heap.size w w5) := Lib.hid ⟨q1, HB4.out.2.1.below q2, HB4.out.2.2.1.below q2, HB4.out.2.2.2.trans (q2.mono HB4.out.2.2.2.size)⟩
           clear q1 q2)
        | (go_at_call 23
           refine (rf_same_er l n c5 cc H.out.1.len (by omega) r5 _ _ H5.out.1 H5.out.2.1).mono ?_
           rintro e w6 ⟨rfl, b6⟩
           have H6 : Hid (HP w6 p ga k n c r l ∧ Below w.heap.size w w6) := Lib.hid ⟨H5.out.2.2.1.below b6, H5.out.2.2.2.trans (b6.mono H5.out.2.2.2.size)⟩
           clear b6)
        | (go_at_call 26; refine (he_len p n c r _ H6.out.1.c0).mono ?_; rintro e w7 ⟨rfl, h7⟩; obtain rfl := h7))
      go_ret
      exact ⟨rfl, H6.out.2⟩
end Go.Proofs.Ytbdjcppkfihonaa
