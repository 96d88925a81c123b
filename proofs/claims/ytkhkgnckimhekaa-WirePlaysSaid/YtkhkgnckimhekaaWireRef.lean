/- What the document's own answer for a wire comes to (package reparteeref25): a text, read in the text's order; and what a wire tells, held against it. -/
import Derived.Test.YtkhkgnckimhekaaWireOnly
import Derived.Test.YtkhkgnckimhekaaBlk
import Derived.Test.YtkhkgnckimhekaaClass
namespace Go.Proofs.Ytkhkgnckimhekaa
open Go.ChangeShapes Go.WideShapes Go.ChangeAt Go.RowKit
set_option linter.unusedSimpArgs false
set_option linter.unusedVariables false

theorem ref_offer (S T : ByteArray) (se re : Nat) (e : Bool) (w : World) (hT : T.size ≤ 4096) (hS : S.size ≤ 100000) (hse : se ≤ 100000) :
    Calls Try.prog 9 #[.agg #[.string S, .int .i64 se, .int .i64 re, .bool false], .string T, .bool e] w fun r w' => r = .returned (.tuple #[.agg #[.string (S ++ T), .int .i64 ((se + T.size : Nat) : Int), .int .i64 re, .bool e], .bool true]) ∧ Below w.heap.size w w' := by
  go_enter Try.func9, Try.ntmps9
  go_wp2
  have e9 : ((se + T.size : Nat) : Int) = (se : Int) + (T.size : Int) := by omega
  rw [e9]
  exact bodyPost_ret (v := .tuple #[.agg #[.string (S ++ T), .int .i64 ((se : Int) + (T.size : Int)), .int .i64 re, .bool e], .bool true]) (by simp [results, Try.results9, go_sem]) rfl ⟨rfl, by repeat (first | exact Below.refl _ _ | refine Below.drew ?_ | refine Below.alloc ?_ (by simp) _ | refine Below.setCell ?_ (by simp) _ | refine below_drewN ?_ _)⟩
theorem ref_offer_no (S T : ByteArray) (se re : Nat) (e : Bool) (w : World) :
    Calls Try.prog 9 #[.agg #[.string S, .int .i64 se, .int .i64 re, .bool true], .string T, .bool e] w fun r w' => r = .returned (.tuple #[.agg #[.string S, .int .i64 se, .int .i64 re, .bool true], .bool false]) ∧ Below w.heap.size w w' := by
  go_enter Try.func9, Try.ntmps9
  go_wp2
  exact bodyPost_ret (v := .tuple #[.agg #[.string S, .int .i64 se, .int .i64 re, .bool true], .bool false]) (by simp [results, Try.results9, go_sem]) rfl ⟨rfl, by repeat (first | exact Below.refl _ _ | refine Below.drew ?_ | refine Below.alloc ?_ (by simp) _ | refine Below.setCell ?_ (by simp) _ | refine below_drewN ?_ _)⟩
set_option maxHeartbeats 1000000 in
theorem ref_take (S : ByteArray) (se re : Nat) (en : Bool) (n : Int) (k : Nat) (hk : K3 n S.size k) (w : World) (hS : S.size ≤ 100000) (hre : re ≤ 100000) :
    Calls Try.prog 11 #[.agg #[.string S, .int .i64 se, .int .i64 re, .bool en], .int .i64 n] w fun r w' => r = .returned (.tuple #[.agg #[.string (S.extract k S.size), .int .i64 se, .int .i64 ((re + k : Nat) : Int), .bool en], .string (S.extract 0 k)]) ∧ Below w.heap.size w w' := by
  have HK := Lib.hid hk
  have hle := hk.le
  have i1 : (0 : Int) ≤ (k : Int) := by omega
  have i2 : (k : Int) ≤ (S.size : Int) := by omega
  have s1 : IntKind.i64.wrap ((re : Int) + (k : Int)) = (re : Int) + (k : Int) := IntWalk.i64_in _ (by omega)
  clear hk
  go_enter Try.func11, Try.ntmps11
  go_wp2_with (go_at_call 23; refine (within_k3 _ _ _ HK.out _).mono ?_; rintro e w' ⟨rfl, rfl⟩)
  go_region
  go_wp2
  have e9 : ((re + k : Nat) : Int) = (re : Int) + (k : Int) := by omega
  rw [e9]
  exact bodyPost_ret (v := .tuple #[.agg #[.string (S.extract k S.size), .int .i64 se, .int .i64 ((re : Int) + (k : Int)), .bool en], .string (S.extract 0 k)]) (by simp [results, Try.results11, go_sem]) rfl ⟨rfl, by repeat (first | exact Below.refl _ _ | refine Below.drew ?_ | refine Below.alloc ?_ (by simp) _ | refine Below.setCell ?_ (by simp) _ | refine below_drewN ?_ _)⟩
theorem ref_drop (S : ByteArray) (se re : Nat) (en : Bool) (w : World) :
    Calls Try.prog 14 #[.agg #[.string S, .int .i64 se, .int .i64 re, .bool en]] w fun r w' => r = .returned (.agg #[.string ⟨#[]⟩, .int .i64 se, .int .i64 re, .bool true]) ∧ Below w.heap.size w w' := by
  go_enter Try.func14, Try.ntmps14
  go_wp2
  exact bodyPost_ret (v := .agg #[.string ⟨#[]⟩, .int .i64 se, .int .i64 re, .bool true]) (by simp [results, Try.results14, go_sem]) rfl ⟨rfl, by repeat (first | exact Below.refl _ _ | refine Below.drew ?_ | refine Below.alloc ?_ (by simp) _ | refine Below.setCell ?_ (by simp) _ | refine below_drewN ?_ _)⟩
theorem no_bytes {G : ByteArray} (h : G.size = 0) : G.toList.isEmpty = true := by
  rw [← decide_eq_emptyBytes]
  simp only [decide_eq_true_eq]
  exact ByteArray.ext (Array.eq_empty_of_size_eq_zero (by simpa using h))
theorem some_bytes {G : ByteArray} (h : 0 < G.size) : G.toList.isEmpty = false := by
  rw [← decide_eq_emptyBytes]
  simp only [decide_eq_false_iff_not]
  intro h0
  rw [h0] at h
  simp at h
theorem cut_le (S : ByteArray) (k : Nat) (h : k ≤ S.size) : (k : Int) ≤ (S.size : Int) := by omega
set_option maxRecDepth 20000 in
set_option maxHeartbeats 4000000 in
theorem told_on (b B : Nat) (a : Option Addr) (c : Nat) (S : ByteArray) (se re k : Nat) (n : Int) (w : World) (hS : S.size ≤ 100000) (hk : K3 n S.size k)  (h : WAt w b (.slice a S.size c) false se re) (ha : HV w B (.slice a S.size c) S) :
    Calls Try.prog 15 #[.pointer (some ⟨b, 0, none⟩), .agg #[.string S, .int .i64 se, .int .i64 re, .bool false], .int .i64 n] w fun r w' => r = .returned (.bool true) ∧ Below w.heap.size w w' := by
  have hle := hk.le
  have i1 : (0 : Int) ≤ (k : Int) := by omega
  have i2 : (k : Int) ≤ (S.size : Int) := by omega
  have HK := Lib.hid hk
  have HW := Lib.hid h
  have HH := Lib.hid ha
  skip
  clear hk h ha
  go_enter Try.func15, Try.ntmps15
  go_wp2_with fail
  have hV : Hid (WAt (w.alloc (Obj.cells #[.string S, .int .i64 se, .int .i64 re, .bool false] 26)) b (.slice a S.size c) false se re ∧ HV (w.alloc (Obj.cells #[.string S, .int .i64 se, .int .i64 re, .bool false] 26)) B (.slice a S.size c) S ∧
      Blk (w.alloc (Obj.cells #[.string S, .int .i64 se, .int .i64 re, .bool false] 26)) w.heap.size [.string S, .int .i64 se, .int .i64 re, .bool false] 26 ∧ Below w.heap.size w (w.alloc (Obj.cells #[.string S, .int .i64 se, .int .i64 re, .bool false] 26))) :=
    ⟨HW.out.below ((Below.refl _ _).alloc (Nat.le_refl _) _), HH.out.below ((Below.refl _ _).alloc (Nat.le_refl _) _), Blk.newA w _ _, (Below.refl _ _).alloc (Nat.le_refl _) _⟩
  clear HW HH
  revert hV
  generalize (w.alloc (Obj.cells #[.string S, .int .i64 se, .int .i64 re, .bool false] 26)) = W1
  intro hV
  refine wp_region_class (fun w' => WAt w' b (.slice a S.size c) false se re ∧ HV w' B (.slice a S.size c) S ∧ Blk w' w.heap.size [.string S, .int .i64 se, .int .i64 re, .bool false] 26 ∧ Below w.heap.size w w') (by kernel_rfl) (by kernel_rfl) ⟨hV.out.1.drewN 1, hV.out.2.1.drewN 1, hV.out.2.2.1.drew, hV.out.2.2.2.drew⟩ ?_
  repeat (first
      | go_big_quiet_skip
      | (go_big_quiet_want
         unfold Oper.quiet
         apply Exists.intro
         refine ⟨fun wq hwq => ?_, ?_⟩
         · (obtain ⟨hq1, hq2, hq3, hq4⟩ := hwq
            have c0 := hq3.cell (i := 0) rfl
            have c1 := hq3.cell (i := 1) rfl
            have c2 := hq3.cell (i := 2) rfl
            have c3 := hq3.cell (i := 3) rfl
            unfold Oper.quietAt
            go_simp
            first
              | exact ⟨rfl, hq1, hq2, hq3, hq4⟩
              | exact rfl
              | (go_at_call 18; refine (len_any _ _ _ _ _ _ _ _ hq1).mono ?_; rintro e w3 ⟨he, rfl⟩; exact ⟨he, hq1, hq2, hq3, hq4⟩)
              | (go_at_call 21; refine (eof_any _ _ _ _ _ _ hq1).mono ?_; rintro e w3 ⟨he, rfl⟩; exact ⟨he, hq1, hq2, hq3, hq4⟩)
              | (go_at_call 22; refine (over_any _ _ _ _ _ _ _ _ hq1 false (by simp)).mono ?_; rintro e w3 ⟨he, rfl⟩; exact ⟨he, hq1, hq2, hq3, hq4⟩)
              | (go_at_call 19; refine (sent_any _ _ _ _ _ _ hq1).mono ?_; rintro e w3 ⟨he, rfl⟩; exact ⟨he, hq1, hq2, hq3, hq4⟩)
              | (go_at_call 20; refine (read_any _ _ _ _ _ _ hq1).mono ?_; rintro e w3 ⟨he, rfl⟩; exact ⟨he, hq1, hq2, hq3, hq4⟩)
              | (go_at_call 17; refine (peek_k3 _ _ _ _ _ _ _ _ k _ HK.out hq1 hq2).mono ?_; rintro e w3 ⟨he, q, rfl⟩; exact ⟨he, hq1.drewN q, hq2.drewN q, hq3.drewN q, below_drewN hq4 q⟩)
              | (go_at_call 23; refine (within_k3 _ _ k HK.out _).mono ?_; rintro e w3 ⟨he, rfl⟩; exact ⟨he, hq1, hq2, hq3, hq4⟩))
         simp only [Act.put, List.setIfInBounds_toArray, List.set_cons_zero, List.set_cons_succ]
         go_big_quiet_on))
  refine wpQuiet_nil ?_
  intro w4 hw4
  have HB := Lib.hid hw4.2.2.2
  clear hw4
  go_wp2
  go_ret
  exact ⟨rfl, HB.out⟩
set_option maxRecDepth 20000 in
set_option maxHeartbeats 4000000 in
theorem told_over (b B : Nat) (a : Option Addr) (c : Nat) (S : ByteArray) (se re k : Nat) (n : Int) (w : World) (hS : S.size ≤ 100000) (hk : K3 n S.size k) (h0 : S.size = 0) (h : WAt w b (.slice a S.size c) true se re) (ha : HV w B (.slice a S.size c) S) :
    Calls Try.prog 15 #[.pointer (some ⟨b, 0, none⟩), .agg #[.string S, .int .i64 se, .int .i64 re, .bool true], .int .i64 n] w fun r w' => r = .returned (.bool true) ∧ Below w.heap.size w w' := by
  have hle := hk.le
  have i1 : (0 : Int) ≤ (k : Int) := by omega
  have i2 : (k : Int) ≤ (S.size : Int) := by omega
  have HK := Lib.hid hk
  have HW := Lib.hid h
  have HH := Lib.hid ha
  have hem := no_bytes h0
  have HO : Hid ((true && decide (S.size = 0)) = true) := by rw [Hid, Bool.true_and]; exact decide_eq_true h0
  clear h0
  clear hk h ha
  go_enter Try.func15, Try.ntmps15
  go_wp2_with fail
  have hV : Hid (WAt (w.alloc (Obj.cells #[.string S, .int .i64 se, .int .i64 re, .bool true] 26)) b (.slice a S.size c) true se re ∧ HV (w.alloc (Obj.cells #[.string S, .int .i64 se, .int .i64 re, .bool true] 26)) B (.slice a S.size c) S ∧
      Blk (w.alloc (Obj.cells #[.string S, .int .i64 se, .int .i64 re, .bool true] 26)) w.heap.size [.string S, .int .i64 se, .int .i64 re, .bool true] 26 ∧ Below w.heap.size w (w.alloc (Obj.cells #[.string S, .int .i64 se, .int .i64 re, .bool true] 26))) :=
    ⟨HW.out.below ((Below.refl _ _).alloc (Nat.le_refl _) _), HH.out.below ((Below.refl _ _).alloc (Nat.le_refl _) _), Blk.newA w _ _, (Below.refl _ _).alloc (Nat.le_refl _) _⟩
  clear HW HH
  revert hV
  generalize (w.alloc (Obj.cells #[.string S, .int .i64 se, .int .i64 re, .bool true] 26)) = W1
  intro hV
  refine wp_region_class (fun w' => WAt w' b (.slice a S.size c) true se re ∧ HV w' B (.slice a S.size c) S ∧ Blk w' w.heap.size [.string S, .int .i64 se, .int .i64 re, .bool true] 26 ∧ Below w.heap.size w w') (by kernel_rfl) (by kernel_rfl) ⟨hV.out.1.drewN 1, hV.out.2.1.drewN 1, hV.out.2.2.1.drew, hV.out.2.2.2.drew⟩ ?_
  repeat (first
      | go_big_quiet_skip
      | (go_big_quiet_want
         unfold Oper.quiet
         apply Exists.intro
         refine ⟨fun wq hwq => ?_, ?_⟩
         · (obtain ⟨hq1, hq2, hq3, hq4⟩ := hwq
            have c0 := hq3.cell (i := 0) rfl
            have c1 := hq3.cell (i := 1) rfl
            have c2 := hq3.cell (i := 2) rfl
            have c3 := hq3.cell (i := 3) rfl
            unfold Oper.quietAt
            go_simp
            first
              | exact ⟨rfl, hq1, hq2, hq3, hq4⟩
              | exact rfl
              | (go_at_call 18; refine (len_any _ _ _ _ _ _ _ _ hq1).mono ?_; rintro e w3 ⟨he, rfl⟩; exact ⟨he, hq1, hq2, hq3, hq4⟩)
              | (go_at_call 21; refine (eof_any _ _ _ _ _ _ hq1).mono ?_; rintro e w3 ⟨he, rfl⟩; exact ⟨he, hq1, hq2, hq3, hq4⟩)
              | (go_at_call 22; refine (over_any _ _ _ _ _ _ _ _ hq1 true (by exact HO.out)).mono ?_; rintro e w3 ⟨he, rfl⟩; exact ⟨he, hq1, hq2, hq3, hq4⟩)
              | (go_at_call 19; refine (sent_any _ _ _ _ _ _ hq1).mono ?_; rintro e w3 ⟨he, rfl⟩; exact ⟨he, hq1, hq2, hq3, hq4⟩)
              | (go_at_call 20; refine (read_any _ _ _ _ _ _ hq1).mono ?_; rintro e w3 ⟨he, rfl⟩; exact ⟨he, hq1, hq2, hq3, hq4⟩)
              | (go_at_call 17; refine (peek_k3 _ _ _ _ _ _ _ _ k _ HK.out hq1 hq2).mono ?_; rintro e w3 ⟨he, q, rfl⟩; exact ⟨he, hq1.drewN q, hq2.drewN q, hq3.drewN q, below_drewN hq4 q⟩)
              | (go_at_call 23; refine (within_k3 _ _ k HK.out _).mono ?_; rintro e w3 ⟨he, rfl⟩; exact ⟨he, hq1, hq2, hq3, hq4⟩))
         simp only [Act.put, List.setIfInBounds_toArray, List.set_cons_zero, List.set_cons_succ]
         go_big_quiet_on))
  refine wpQuiet_nil ?_
  intro w4 hw4
  have HB := Lib.hid hw4.2.2.2
  clear hw4
  go_wp2
  go_ret
  exact ⟨rfl, HB.out⟩
set_option maxRecDepth 20000 in
set_option maxHeartbeats 4000000 in
theorem told_left (b B : Nat) (a : Option Addr) (c : Nat) (S : ByteArray) (se re k : Nat) (n : Int) (w : World) (hS : S.size ≤ 100000) (hk : K3 n S.size k) (h0 : 0 < S.size) (h : WAt w b (.slice a S.size c) true se re) (ha : HV w B (.slice a S.size c) S) :
    Calls Try.prog 15 #[.pointer (some ⟨b, 0, none⟩), .agg #[.string S, .int .i64 se, .int .i64 re, .bool true], .int .i64 n] w fun r w' => r = .returned (.bool true) ∧ Below w.heap.size w w' := by
  have hle := hk.le
  have i1 : (0 : Int) ≤ (k : Int) := by omega
  have i2 : (k : Int) ≤ (S.size : Int) := by omega
  have HK := Lib.hid hk
  have HW := Lib.hid h
  have HH := Lib.hid ha
  have hem := some_bytes h0
  have HO : Hid ((true && decide (S.size = 0)) = false) := by rw [Hid, Bool.true_and]; exact decide_eq_false (by omega)
  clear hk h ha
  go_enter Try.func15, Try.ntmps15
  go_wp2_with fail
  have hV : Hid (WAt (w.alloc (Obj.cells #[.string S, .int .i64 se, .int .i64 re, .bool true] 26)) b (.slice a S.size c) true se re ∧ HV (w.alloc (Obj.cells #[.string S, .int .i64 se, .int .i64 re, .bool true] 26)) B (.slice a S.size c) S ∧
      Blk (w.alloc (Obj.cells #[.string S, .int .i64 se, .int .i64 re, .bool true] 26)) w.heap.size [.string S, .int .i64 se, .int .i64 re, .bool true] 26 ∧ Below w.heap.size w (w.alloc (Obj.cells #[.string S, .int .i64 se, .int .i64 re, .bool true] 26))) :=
    ⟨HW.out.below ((Below.refl _ _).alloc (Nat.le_refl _) _), HH.out.below ((Below.refl _ _).alloc (Nat.le_refl _) _), Blk.newA w _ _, (Below.refl _ _).alloc (Nat.le_refl _) _⟩
  clear HW HH
  revert hV
  generalize (w.alloc (Obj.cells #[.string S, .int .i64 se, .int .i64 re, .bool true] 26)) = W1
  intro hV
  refine wp_region_class (fun w' => WAt w' b (.slice a S.size c) true se re ∧ HV w' B (.slice a S.size c) S ∧ Blk w' w.heap.size [.string S, .int .i64 se, .int .i64 re, .bool true] 26 ∧ Below w.heap.size w w') (by kernel_rfl) (by kernel_rfl) ⟨hV.out.1.drewN 1, hV.out.2.1.drewN 1, hV.out.2.2.1.drew, hV.out.2.2.2.drew⟩ ?_
  repeat (first
      | go_big_quiet_skip
      | (go_big_quiet_want
         unfold Oper.quiet
         apply Exists.intro
         refine ⟨fun wq hwq => ?_, ?_⟩
         · (obtain ⟨hq1, hq2, hq3, hq4⟩ := hwq
            have c0 := hq3.cell (i := 0) rfl
            have c1 := hq3.cell (i := 1) rfl
            have c2 := hq3.cell (i := 2) rfl
            have c3 := hq3.cell (i := 3) rfl
            unfold Oper.quietAt
            go_simp
            first
              | exact ⟨rfl, hq1, hq2, hq3, hq4⟩
              | exact rfl
              | (go_at_call 18; refine (len_any _ _ _ _ _ _ _ _ hq1).mono ?_; rintro e w3 ⟨he, rfl⟩; exact ⟨he, hq1, hq2, hq3, hq4⟩)
              | (go_at_call 21; refine (eof_any _ _ _ _ _ _ hq1).mono ?_; rintro e w3 ⟨he, rfl⟩; exact ⟨he, hq1, hq2, hq3, hq4⟩)
              | (go_at_call 22; refine (over_any _ _ _ _ _ _ _ _ hq1 false (by exact HO.out)).mono ?_; rintro e w3 ⟨he, rfl⟩; exact ⟨he, hq1, hq2, hq3, hq4⟩)
              | (go_at_call 19; refine (sent_any _ _ _ _ _ _ hq1).mono ?_; rintro e w3 ⟨he, rfl⟩; exact ⟨he, hq1, hq2, hq3, hq4⟩)
              | (go_at_call 20; refine (read_any _ _ _ _ _ _ hq1).mono ?_; rintro e w3 ⟨he, rfl⟩; exact ⟨he, hq1, hq2, hq3, hq4⟩)
              | (go_at_call 17; refine (peek_k3 _ _ _ _ _ _ _ _ k _ HK.out hq1 hq2).mono ?_; rintro e w3 ⟨he, q, rfl⟩; exact ⟨he, hq1.drewN q, hq2.drewN q, hq3.drewN q, below_drewN hq4 q⟩)
              | (go_at_call 23; refine (within_k3 _ _ k HK.out _).mono ?_; rintro e w3 ⟨he, rfl⟩; exact ⟨he, hq1, hq2, hq3, hq4⟩))
         simp only [Act.put, List.setIfInBounds_toArray, List.set_cons_zero, List.set_cons_succ]
         go_big_quiet_on))
  refine wpQuiet_nil ?_
  intro w4 hw4
  have HB := Lib.hid hw4.2.2.2
  clear hw4
  go_wp2
  go_ret
  exact ⟨rfl, HB.out⟩
theorem told_any (b B : Nat) (v : Value) (S : ByteArray) (en : Bool) (se re : Nat) (n : Int) (w : World) (hS : S.size ≤ 100000) (h : WAt w b v en se re) (ha : HV w B v S) :
    Calls Try.prog 15 #[.pointer (some ⟨b, 0, none⟩), .agg #[.string S, .int .i64 se, .int .i64 re, .bool en], .int .i64 n] w fun r w' => r = .returned (.bool true) ∧ Below w.heap.size w w' := by
  obtain ⟨a, c, rfl⟩ := ha.shape
  obtain ⟨k, hk⟩ := K3_ex n S.size
  cases en
  · exact told_on b B a c S se re k n w hS hk h ha
  · by_cases h0 : S.size = 0
    · exact told_over b B a c S se re k n w hS hk h0 h ha
    · exact told_left b B a c S se re k n w hS hk (by omega) h ha
end Go.Proofs.Ytkhkgnckimhekaa
