/- Contracts of a text that is written piece by piece (package pend), its block known whole; the document's own answer (package reparteeref20); and what a writer tells, held against it. -/
import Derived.Test.YtalkmokecnnhmaaPendWalks
import Derived.Test.YtalkmokecnnhmaaBlk
import Derived.Test.YtalkmokecnnhmaaClass
import Derived.Lib.MinMax
namespace Go.Proofs.Ytalkmokecnnhmaa
open Go.ChangeShapes Go.WideShapes Go.ChangeAt Go.RowKit
set_option linter.unusedSimpArgs false
set_option linter.unusedVariables false

theorem ret_bb {a b : Bool} (h : a = b) : Ending.returned (.bool a) = .returned (.bool b) := by rw [h]
/-- A writer's block. -/
def PB (w : World) (b : Nat) (o : Int) (T : ByteArray) (s l t : Nat) : Prop := Blk w b [.int .i64 o, .string T, .int .i64 s, .int .i64 l, .int .i64 t] 48
theorem PB.pat {w : World} {b : Nat} {o : Int} {T : ByteArray} {s l t : Nat} (h : PB w b o T s l t) : PAt w b o T s l t :=
  ⟨h.cell (i := 0) rfl, h.cell (i := 1) rfl, h.cell (i := 2) rfl, h.cell (i := 3) rfl, h.cell (i := 4) rfl, h.free 2, h.free 3, h.free 4⟩
theorem PB.drewN {w : World} {b : Nat} {o : Int} {T : ByteArray} {s l t : Nat} (h : PB w b o T s l t) (q : Nat) : PB (w.drewN q) b o T s l t := h
theorem size_empty {G : ByteArray} (h : G.size = 0) : G.toList.isEmpty = true := by
  rw [← decide_eq_emptyBytes]
  simp only [decide_eq_true_eq]
  exact ByteArray.ext (Array.eq_empty_of_size_eq_zero (by simpa using h))
theorem size_full {G : ByteArray} (h : 0 < G.size) : G.toList.isEmpty = false := by
  rw [← decide_eq_emptyBytes]
  simp only [decide_eq_false_iff_not]
  intro h0
  rw [h0] at h
  simp at h
def clampI (x a b : Int) : Int := if x < a then a else if b < x then b else x
theorem within_any (n a m : Int) (k : Int) (hk : clampI n a m = k) (w : World) : Calls Try.prog 24 #[.int .i64 n, .int .i64 a, .int .i64 m] w fun e w' => e = .returned (.int .i64 k) ∧ w = w' := by
  subst hk
  by_cases h1 : n < a
  · go_enter Try.func24, Try.ntmps24
    go_wp2
    go_ret
    exact ⟨ret_i64 (by unfold clampI; rw [if_pos (by omega)]), rfl⟩
  · by_cases h2 : m < n
    · go_enter Try.func24, Try.ntmps24
      go_wp2
      go_ret
      exact ⟨ret_i64 (by unfold clampI; rw [if_neg (by omega), if_pos (by omega)]), rfl⟩
    · go_enter Try.func24, Try.ntmps24
      go_wp2
      go_ret
      exact ⟨ret_i64 (by unfold clampI; rw [if_neg (by omega), if_neg (by omega)]), rfl⟩
set_option maxHeartbeats 1000000 in
theorem load_no (b : Nat) (o : Int) (T : ByteArray) (s l t : Nat) (w : World) (hl : 0 < l) (h : PB w b o T s l t) :
    Calls Try.prog 12 #[.pointer (some ⟨b, 0, none⟩)] w fun e w' => e = .returned (.int .i64 0) ∧ w = w' := by
  have h3 := h.cell (i := 3) rfl
  go_enter Try.func12, Try.ntmps12
  go_wp2
  go_ret
  exact ⟨rfl, rfl⟩
set_option maxHeartbeats 1000000 in
theorem load_yes (b : Nat) (o : Int) (T : ByteArray) (s t k : Nat) (w : World) (ho : 1 ≤ o ∧ o ≤ 4096) (hT : T.size ≤ 1000000) (hs : s ≤ T.size) (hk : min o ((T.size : Int) - (s : Int)) = (k : Int)) (h : PB w b o T s 0 t) :
    Calls Try.prog 12 #[.pointer (some ⟨b, 0, none⟩)] w fun e w' => e = .returned (.int .i64 k) ∧ PB w' b o T s k t ∧ Chg [b] w w' := by
  have HP := Lib.hid h
  have h0 := h.cell (i := 0) rfl
  have h3 := h.cell (i := 3) rfl
  have f3 := h.free 3
  have hk2 : (if (T.size : Int) - (s : Int) < o then (T.size : Int) - (s : Int) else o) = (k : Int) := by split <;> omega
  have HK := Lib.hid hk
  clear hk h
  go_enter Try.func12, Try.ntmps12
  go_wp2
  go_region_held3 (fun w' => w'.cell? ⟨b, 0, none⟩ = some (.int .i64 o)) (first | go_keep | (rw [World.cell?_setCell_other _ _ _ _ (by simp)]; simpa using h0)) ((go_at_call 21; refine (rest_any b o T s 0 t _ hT (by omega) (PB.drewN HP.out 1).pat).mono ?_; rintro e w2 ⟨rfl, n, rfl⟩))
  rw [HK.out]
  have HQ := Lib.hid ((PB.drewN HP.out (1 + n)).set 3 (.int .i64 (k : Int)))
  have q3 := HQ.out.cell (i := 3) rfl
  go_wp2
  go_ret
  exact ⟨rfl, HQ.out, ((Chg.refl _ _).drewN _).set (Or.inl (by simp)) _ _⟩
theorem take_no (b : Nat) (o : Int) (T : ByteArray) (s t : Nat) (n : Int) (w : World) (hT : T.size ≤ 1000000) (hs : s ≤ T.size) (h : PB w b o T s 0 t) :
    Calls Try.prog 14 #[.pointer (some ⟨b, 0, none⟩), .int .i64 n] w fun e w' => e = .returned (.string ⟨#[]⟩) ∧ ∃ q, w' = w.drewN q := by
  have HP := Lib.hid h.pat
  have he : T.extract s (s + 0) = ⟨#[]⟩ := ByteArray.ext (Array.eq_empty_of_size_eq_zero (by simp))
  have HE := Lib.hid he
  clear h he
  go_enter Try.func14, Try.ntmps14
  go_wp2_with (go_at_call 22; refine (peek_any b o T s 0 t _ hT (by omega) HP.out).mono ?_; rintro e w2 ⟨rfl, k, rfl⟩; rw [HE.out])
  go_ret
  exact ⟨rfl, _, rfl⟩
set_option maxHeartbeats 1000000 in
theorem take_part (b : Nat) (o : Int) (T : ByteArray) (s l t j : Nat) (n : Int) (w : World) (hT : T.size ≤ 1000000) (ht : t ≤ 1000000) (hl : 0 < l) (hs : s + l ≤ T.size) (hj : min (max n 0) (l : Int) = (j : Int)) (hjl : j < l) (h : PB w b o T s l t) :
    Calls Try.prog 14 #[.pointer (some ⟨b, 0, none⟩), .int .i64 n] w fun e w' => e = .returned (.string (T.extract s (s + j))) ∧ PB w' b o T (s + j) (l - j) (t + 1) ∧ Chg [b] w w' := by
  have HP := Lib.hid h
  obtain ⟨G, hG⟩ : ∃ G, T.extract s (s + l) = G := ⟨_, rfl⟩
  have hz : G.size = l := by rw [← hG]; exact size_cut T s l hs
  have hge := size_full (G := G) (by omega)
  have HC : Hid (G.extract 0 j = T.extract s (s + j)) := by rw [← hG]; exact cut_cut T s l _ (by omega)
  have HG := Lib.hid hG
  have i1 : (0 : Int) ≤ (j : Int) := by omega
  have i2 : (j : Int) ≤ (l : Int) := by omega
  have i3 : (j : Int) < (l : Int) := by omega
  clear hG h
  go_enter Try.func14, Try.ntmps14
  go_wp2_with (go_at_call 22; refine (peek_any b o T s l t _ hT hs HP.out.pat).mono ?_; rintro e w2 ⟨rfl, k, rfl⟩; rw [HG.out]; obtain ⟨q0, q1, q2, q3, q4, k2, k3, k4⟩ := (PB.drewN HP.out k).pat)
  go_ret
  have hq := (((PB.drewN HP.out k).set 4 (.int .i64 ((t : Int) + 1))).set 2 (.int .i64 ((s : Int) + (j : Int)))).set 3 (.int .i64 ((l : Int) - (j : Int)))
  refine ⟨ret_str HC.out, ?_, (((((Chg.refl _ _).drewN k).set (Or.inl (by simp)) _ _).set (Or.inl (by simp)) _ _).set (Or.inl (by simp)) _ _)⟩
  unfold PB
  rw [show ((s + j : Nat) : Int) = (s : Int) + (j : Int) by omega, show ((l - j : Nat) : Int) = (l : Int) - (j : Int) by omega, show ((t + 1 : Nat) : Int) = (t : Int) + 1 by omega]
  exact hq
set_option maxHeartbeats 1000000 in
theorem take_whole (b : Nat) (o : Int) (T : ByteArray) (s l t : Nat) (n : Int) (w : World) (hT : T.size ≤ 1000000) (ht : t ≤ 1000000) (hl : 0 < l) (hs : s + l ≤ T.size) (hj : min (max n 0) (l : Int) = (l : Int)) (h : PB w b o T s l t) :
    Calls Try.prog 14 #[.pointer (some ⟨b, 0, none⟩), .int .i64 n] w fun e w' => e = .returned (.string (T.extract s (s + l))) ∧ PB w' b o T (s + l) (l - l) t ∧ Chg [b] w w' := by
  have HP := Lib.hid h
  obtain ⟨G, hG⟩ : ∃ G, T.extract s (s + l) = G := ⟨_, rfl⟩
  have hz : G.size = l := by rw [← hG]; exact size_cut T s l hs
  have hge := size_full (G := G) (by omega)
  have HC : Hid (G.extract 0 l = T.extract s (s + l)) := by rw [← hG]; exact cut_cut T s l _ (by omega)
  have HG := Lib.hid hG
  have i1 : (0 : Int) ≤ (l : Int) := by omega
  clear hG h
  go_enter Try.func14, Try.ntmps14
  go_wp2_with (go_at_call 22; refine (peek_any b o T s l t _ hT hs HP.out.pat).mono ?_; rintro e w2 ⟨rfl, k, rfl⟩; rw [HG.out]; obtain ⟨q0, q1, q2, q3, q4, k2, k3, k4⟩ := (PB.drewN HP.out k).pat)
  go_ret
  have hq := ((PB.drewN HP.out k).set 2 (.int .i64 ((s : Int) + (l : Int)))).set 3 (.int .i64 0)
  refine ⟨ret_str HC.out, ?_, (((Chg.refl _ _).drewN k).set (Or.inl (by simp)) _ _).set (Or.inl (by simp)) _ _⟩
  unfold PB
  rw [show ((s + l : Nat) : Int) = (s : Int) + (l : Int) by omega, show l - l = 0 by omega]
  exact hq
set_option maxHeartbeats 1000000 in
theorem drop_any (b : Nat) (o : Int) (T : ByteArray) (s l t : Nat) (w : World) (hT : T.size ≤ 1000000) (hs : s + l ≤ T.size) (h : PB w b o T s l t) :
    Calls Try.prog 15 #[.pointer (some ⟨b, 0, none⟩)] w fun e w' => e = .returned (.int .i64 ((T.size - s : Nat) : Int)) ∧ PB w' b o (T.extract 0 s) s 0 t ∧ Chg [b] w w' := by
  have HP := Lib.hid h
  have e9 : ((T.size - s : Nat) : Int) = (T.size : Int) - (s : Int) := by omega
  have h1 := h.cell (i := 1) rfl
  have h2 := h.cell (i := 2) rfl
  have h3 := h.cell (i := 3) rfl
  have f1 := h.free 1
  have f3 := h.free 3
  have s1 : IntKind.i64.wrap ((T.size : Int) - (s : Int)) = (T.size : Int) - (s : Int) := IntWalk.i64_in _ (by omega)
  have i1 : (0 : Int) ≤ (s : Int) := by omega
  have i2 : (s : Int) ≤ (T.size : Int) := by omega
  rw [e9]
  clear h e9
  go_enter Try.func15, Try.ntmps15
  go_wp2
  go_quiet (fail)
  have HQ := Lib.hid (PB.drewN HP.out nq)
  have HC := Lib.hid ((Chg.refl [b] w).drewN nq)
  clear h1 h2 h3 f1 f3
  revert HQ HC
  generalize w.drewN nq = W1
  intro HQ HC
  have h1 := HQ.out.cell (i := 1) rfl
  have h2 := HQ.out.cell (i := 2) rfl
  have h3 := HQ.out.cell (i := 3) rfl
  have f1 := HQ.out.free 1
  have f3 := HQ.out.free 3
  go_wp2
  go_region
  go_wp2
  go_ret
  exact ⟨rfl, (HQ.out.drew.set 1 (.string (T.extract 0 s))).set 3 (.int .i64 0), (HC.out.drew.set (Or.inl (by simp)) _ _).set (Or.inl (by simp)) _ _⟩
theorem copy_any (b : Nat) (o : Int) (T : ByteArray) (s l t : Nat) (w : World) (h : PB w b o T s l t) :
    Calls Try.prog 16 #[.pointer (some ⟨b, 0, none⟩)] w fun e w' => e = .returned (.pointer (some ⟨w.heap.size, 0, none⟩)) ∧ PB w' w.heap.size o T s l t ∧ Below w.heap.size w w' := by
  have h0 := h.cell (i := 0) rfl
  have h1 := h.cell (i := 1) rfl
  have h2 := h.cell (i := 2) rfl
  have h3 := h.cell (i := 3) rfl
  have h4 := h.cell (i := 4) rfl
  have hl := h.lt
  go_enter Try.func16, Try.ntmps16
  go_wp2
  go_ret
  exact ⟨rfl, Blk.newA w #[.int .i64 o, .string T, .int .i64 s, .int .i64 l, .int .i64 t] _, (Below.refl _ _).alloc (Nat.le_refl _) _⟩
theorem begin_any (b : Nat) (o : Int) (T S : ByteArray) (s l t : Nat) (w : World) (h : PB w b o T s l t) :
    Calls Try.prog 9 #[.pointer (some ⟨b, 0, none⟩), .string S] w fun e w' => e = .returned (.tuple #[]) ∧ PB w' b o S 0 0 0 ∧ Chg [b] w w' := by
  have HP := Lib.hid h
  have h0 := h.cell (i := 0) rfl
  have h1 := h.cell (i := 1) rfl
  have h2 := h.cell (i := 2) rfl
  have h3 := h.cell (i := 3) rfl
  have h4 := h.cell (i := 4) rfl
  have f0 := h.free 0
  have f1 := h.free 1
  have f2 := h.free 2
  have f3 := h.free 3
  have f4 := h.free 4
  go_enter Try.func9, Try.ntmps9
  go_wp2
  go_end0
  exact ⟨rfl, ((((HP.out.set 0 (.int .i64 o)).set 1 (.string S)).set 2 (.int .i64 0)).set 3 (.int .i64 0)).set 4 (.int .i64 0), (((((Chg.refl _ _).set (Or.inl (by simp)) _ _).set (Or.inl (by simp)) _ _).set (Or.inl (by simp)) _ _).set (Or.inl (by simp)) _ _).set (Or.inl (by simp)) _ _⟩
end Go.Proofs.Ytalkmokecnnhmaa
