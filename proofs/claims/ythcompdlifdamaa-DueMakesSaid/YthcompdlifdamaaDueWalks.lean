/- Contracts of the deadlines of a dialogue (package due, and the document's own answers): each hands back the plain numbers of Du; new blocks may come, nothing that was there is written. -/
import Derived.Test.YthcompdlifdamaaDueMath
import Derived.Test.YthcompdlifdamaaTkLeast
import Derived.Test.YthcompdlifdamaaClass
import Derived.RegionTactic
import Derived.ChangeAlike
import Derived.WalkSmall
import Derived.Deep.QuietTactic
import Derived.BigQuiet
namespace Go.Proofs.Ythcompdlifdamaa
open Go.ChangeShapes Go.WideShapes Go.ChangeAt Go.RowKit
set_option linter.unusedSimpArgs false
set_option linter.unusedVariables false

theorem quietw {P : Program} {f : FuncId} {args : Array Value} {w : World} {n : Nat} {v : Value}
    (h : Calls P f args (w.drewN n) fun e w' => e = .returned v ∧ w.drewN n = w') : Calls P f args (w.drewN n) fun e w'' => e = .returned v ∧ ∃ m, w'' = w.drewN m :=
  h.mono fun _ _ ⟨he, hm⟩ => ⟨he, n, hm.symm⟩
theorem quietwa {P : Program} {f : FuncId} {args : Array Value} {w : World} {a n : Nat} {v : Value}
    (h : Calls P f args (w.drewN (a + n)) fun e w' => e = .returned v ∧ w.drewN (a + n) = w') : Calls P f args (w.drewN (a + n)) fun e w'' => e = .returned v ∧ ∃ m, w'' = w.drewN (a + m) :=
  h.mono fun _ _ ⟨he, hm⟩ => ⟨he, n, hm.symm⟩
theorem least2 (b cp : Nat) (x y : Int) (W : World) (hx : x ≤ 9223372036854775807) (hy : y ≤ 9223372036854775807) (c0 : W.cell? ⟨b, 0, none⟩ = some (.int .i64 x)) (c1 : W.cell? ⟨b, 1, none⟩ = some (.int .i64 y)) :
    Calls Try.prog 23 #[.slice (some ⟨b, 0, none⟩) 2 cp] W fun e w' => e = .returned (.int .i64 (Tk.least [x, y])) ∧ W = w' := by
  refine least_any b 0 2 cp [x, y] rfl (by omega) ?_ W ?_
  · intro i hi
    obtain rfl | rfl := (by omega : i = 0 ∨ i = 1)
    all_goals (simp; omega)
  · intro i hi
    obtain rfl | rfl := (by omega : i = 0 ∨ i = 1)
    · simpa using c0
    · simpa using c1
theorem least3 (b cp : Nat) (x y z : Int) (W : World) (hx : x ≤ 9223372036854775807) (hy : y ≤ 9223372036854775807) (hz : z ≤ 9223372036854775807) (c0 : W.cell? ⟨b, 0, none⟩ = some (.int .i64 x)) (c1 : W.cell? ⟨b, 1, none⟩ = some (.int .i64 y)) (c2 : W.cell? ⟨b, 2, none⟩ = some (.int .i64 z)) :
    Calls Try.prog 23 #[.slice (some ⟨b, 0, none⟩) 3 cp] W fun e w' => e = .returned (.int .i64 (Tk.least [x, y, z])) ∧ W = w' := by
  refine least_any b 0 3 cp [x, y, z] rfl (by omega) ?_ W ?_
  · intro i hi
    obtain rfl | rfl | rfl := (by omega : i = 0 ∨ i = 1 ∨ i = 2)
    all_goals (simp; omega)
  · intro i hi
    obtain rfl | rfl | rfl := (by omega : i = 0 ∨ i = 1 ∨ i = 2)
    · simpa using c0
    · simpa using c1
    · simpa using c2
theorem rleast2 (b cp : Nat) (x y : Int) (W : World) (hx : x ≤ 9223372036854775807) (hy : y ≤ 9223372036854775807) (c0 : W.cell? ⟨b, 0, none⟩ = some (.int .i64 x)) (c1 : W.cell? ⟨b, 1, none⟩ = some (.int .i64 y)) :
    Calls Try.prog 24 #[.slice (some ⟨b, 0, none⟩) 2 cp] W fun e w' => e = .returned (.int .i64 (Tk.least [x, y])) ∧ W = w' := by
  refine rleast_any b 0 2 cp [x, y] rfl (by omega) ?_ W ?_
  · intro i hi
    obtain rfl | rfl := (by omega : i = 0 ∨ i = 1)
    all_goals (simp; omega)
  · intro i hi
    obtain rfl | rfl := (by omega : i = 0 ∨ i = 1)
    · simpa using c0
    · simpa using c1
theorem rleast3 (b cp : Nat) (x y z : Int) (W : World) (hx : x ≤ 9223372036854775807) (hy : y ≤ 9223372036854775807) (hz : z ≤ 9223372036854775807) (c0 : W.cell? ⟨b, 0, none⟩ = some (.int .i64 x)) (c1 : W.cell? ⟨b, 1, none⟩ = some (.int .i64 y)) (c2 : W.cell? ⟨b, 2, none⟩ = some (.int .i64 z)) :
    Calls Try.prog 24 #[.slice (some ⟨b, 0, none⟩) 3 cp] W fun e w' => e = .returned (.int .i64 (Tk.least [x, y, z])) ∧ W = w' := by
  refine rleast_any b 0 3 cp [x, y, z] rfl (by omega) ?_ W ?_
  · intro i hi
    obtain rfl | rfl | rfl := (by omega : i = 0 ∨ i = 1 ∨ i = 2)
    all_goals (simp; omega)
  · intro i hi
    obtain rfl | rfl | rfl := (by omega : i = 0 ∨ i = 1 ∨ i = 2)
    · simpa using c0
    · simpa using c1
    · simpa using c2
theorem free_any  (w : World) : Calls Try.prog 8 #[] w fun e w' => e = .returned (.agg #[.int .i64 (9223372036854775807), .int .i64 (9223372036854775807), .int .i64 (9223372036854775807)]) ∧ Below w.heap.size w w' := by
  go_enter Try.func8, Try.ntmps8
  go_wp2
  exact bodyPost_ret (v := .agg #[.int .i64 9223372036854775807, .int .i64 9223372036854775807, .int .i64 9223372036854775807]) (by simp [results, Try.results8, go_sem]) rfl ⟨rfl, by go_grown⟩
theorem begin_any (n d : Int) (hn : n ≤ 9223372036854775807) (hd : d ≤ 9223372036854775807) (w : World) : Calls Try.prog 5 #[.int .i64 n, .int .i64 d] w fun e w' => e = .returned (.agg #[.int .i64 (9223372036854775807), .int .i64 (Tk.add n d), .int .i64 (9223372036854775807)]) ∧ Below w.heap.size w w' := by
  go_enter Try.func5, Try.ntmps5
  go_wp2_with (first | (go_at_call 22; refine (add_any _ _ (by omega) (by omega) _).mono ?_; rintro e w' ⟨rfl, rfl⟩) | go_in)
  exact bodyPost_ret (v := .agg #[.int .i64 9223372036854775807, .int .i64 (Tk.add n d), .int .i64 9223372036854775807]) (by simp [results, Try.results5, go_sem]) rfl ⟨rfl, by go_grown⟩
theorem behind_any (n d : Int) (hn : n ≤ 9223372036854775807) (hd : d ≤ 9223372036854775807) (w : World) : Calls Try.prog 10 #[.int .i64 n, .int .i64 d] w fun e w' => e = .returned (.int .i64 (Tk.add n d)) ∧ w = w' := by
  by_cases h : d = 9223372036854775807
  · subst h
    have H := Lib.hid (Du.add_never n)
    go_enter Try.func10, Try.ntmps10
    go_wp2
    go_ret
    exact ⟨ret_i64 H.out.symm, rfl⟩
  · have hb : (d == 9223372036854775807) = false := by simpa using h
    clear h
    go_enter Try.func10, Try.ntmps10
    go_wp2_with (go_at_call 21; refine (radd_any _ _ (by omega) (by omega) _).mono ?_; rintro e w' ⟨rfl, rfl⟩)
    go_ret
    exact ⟨rfl, rfl⟩
theorem rbegin_any (n d : Int) (hn : n ≤ 9223372036854775807) (hd : d ≤ 9223372036854775807) (w : World) : Calls Try.prog 6 #[.int .i64 n, .int .i64 d] w fun e w' => e = .returned (.agg #[.int .i64 (9223372036854775807), .int .i64 (Tk.add n d), .int .i64 (9223372036854775807)]) ∧ Below w.heap.size w w' := by
  go_enter Try.func6, Try.ntmps6
  go_wp2_with (go_at_call 10; refine (behind_any _ _ (by omega) (by omega) _).mono ?_; rintro e w' ⟨rfl, rfl⟩)
  exact bodyPost_ret (v := .agg #[.int .i64 9223372036854775807, .int .i64 (Tk.add n d), .int .i64 9223372036854775807]) (by simp [results, Try.results6, go_sem]) rfl ⟨rfl, by go_grown⟩
theorem wait_any (u l c n d : Int) (hn : n ≤ 9223372036854775807) (hd : d ≤ 9223372036854775807) (w : World) : Calls Try.prog 9 #[.agg #[.int .i64 u, .int .i64 l, .int .i64 c], .int .i64 n, .int .i64 d] w fun e w' => e = .returned (.agg #[.int .i64 (Tk.add n d), .int .i64 (l), .int .i64 (c)]) ∧ Below w.heap.size w w' := by
  go_enter Try.func9, Try.ntmps9
  go_wp2_with (go_at_call 22; refine (add_any _ _ (by omega) (by omega) _).mono ?_; rintro e w' ⟨rfl, rfl⟩)
  exact bodyPost_ret (v := .agg #[.int .i64 (Tk.add n d), .int .i64 l, .int .i64 c]) (by simp [results, Try.results9, go_sem]) rfl ⟨rfl, by go_grown⟩
theorem rest_any (u l c : Int) (w : World) : Calls Try.prog 13 #[.agg #[.int .i64 u, .int .i64 l, .int .i64 c]] w fun e w' => e = .returned (.agg #[.int .i64 (9223372036854775807), .int .i64 (l), .int .i64 (c)]) ∧ Below w.heap.size w w' := by
  go_enter Try.func13, Try.ntmps13
  go_wp2
  exact bodyPost_ret (v := .agg #[.int .i64 9223372036854775807, .int .i64 l, .int .i64 c]) (by simp [results, Try.results13, go_sem]) rfl ⟨rfl, by go_grown⟩
theorem cuts_any (u l c a : Int) (hc : c ≤ 9223372036854775807) (ha : a ≤ 9223372036854775807) (w : World) : Calls Try.prog 11 #[.agg #[.int .i64 u, .int .i64 l, .int .i64 c], .int .i64 a] w fun e w' => e = .returned (.agg #[.int .i64 (u), .int .i64 (l), .int .i64 (Tk.least [c, a])]) ∧ Below w.heap.size w w' := by
  go_enter Try.func11, Try.ntmps11
  go_wp2_with (go_at_call 23; refine (least2 _ _ c a _ (by omega) (by omega) (by simp [go_sem]) (by simp [go_sem])).mono ?_; rintro e w' ⟨rfl, rfl⟩)
  exact bodyPost_ret (v := .agg #[.int .i64 u, .int .i64 l, .int .i64 (Tk.least [c, a])]) (by simp [results, Try.results11, go_sem]) rfl ⟨rfl, by go_grown⟩
theorem rcuts_any (u l c a : Int) (hc : c ≤ 9223372036854775807) (ha : a ≤ 9223372036854775807) (w : World) : Calls Try.prog 12 #[.agg #[.int .i64 u, .int .i64 l, .int .i64 c], .int .i64 a] w fun e w' => e = .returned (.agg #[.int .i64 (u), .int .i64 (l), .int .i64 (Tk.least [c, a])]) ∧ Below w.heap.size w w' := by
  go_enter Try.func12, Try.ntmps12
  go_wp2_with (go_at_call 24; refine (rleast2 _ _ c a _ (by omega) (by omega) (by simp [go_sem]) (by simp [go_sem])).mono ?_; rintro e w' ⟨rfl, rfl⟩)
  exact bodyPost_ret (v := .agg #[.int .i64 u, .int .i64 l, .int .i64 (Tk.least [c, a])]) (by simp [results, Try.results12, go_sem]) rfl ⟨rfl, by go_grown⟩
theorem first_any (u l c : Int) (hu : u ≤ 9223372036854775807) (hl : l ≤ 9223372036854775807) (hc : c ≤ 9223372036854775807) (w : World) : Calls Try.prog 19 #[.agg #[.int .i64 u, .int .i64 l, .int .i64 c]] w fun e w' => e = .returned (.int .i64 (Tk.least [u, l, c])) ∧ Below w.heap.size w w' := by
  go_enter Try.func19, Try.ntmps19
  go_wp2_with (go_at_call 23; refine (least3 _ _ u l c _ (by omega) (by omega) (by omega) (by simp [go_sem]) (by simp [go_sem]) (by simp [go_sem])).mono ?_; rintro e w' ⟨rfl, rfl⟩)
  go_ret
  exact ⟨rfl, by go_grown⟩
theorem rfirst_any (u l c : Int) (hu : u ≤ 9223372036854775807) (hl : l ≤ 9223372036854775807) (hc : c ≤ 9223372036854775807) (w : World) : Calls Try.prog 20 #[.agg #[.int .i64 u, .int .i64 l, .int .i64 c]] w fun e w' => e = .returned (.int .i64 (Tk.least [u, l, c])) ∧ Below w.heap.size w w' := by
  go_enter Try.func20, Try.ntmps20
  go_wp2_with (go_at_call 24; refine (rleast3 _ _ u l c _ (by omega) (by omega) (by omega) (by simp [go_sem]) (by simp [go_sem]) (by simp [go_sem])).mono ?_; rintro e w' ⟨rfl, rfl⟩)
  go_ret
  exact ⟨rfl, by go_grown⟩
theorem woken_any (u l c n : Int) (hu : u ≤ 9223372036854775807) (hn : n ≤ 9223372036854775807) (w : World) : Calls Try.prog 16 #[.agg #[.int .i64 u, .int .i64 l, .int .i64 c], .int .i64 n] w fun e w' => e = .returned (.bool (Tk.dueB u n)) ∧ Below w.heap.size w w' := by
  go_enter Try.func16, Try.ntmps16
  go_wp2_with (go_at_call 26; refine (due_any _ _ (by omega) (by omega) _).mono ?_; rintro e w' ⟨rfl, rfl⟩)
  go_ret
  exact ⟨rfl, by go_grown⟩
theorem due_own_any (a n : Int) (ha : a ≤ 9223372036854775807) (hn : n ≤ 9223372036854775807) (w : World) : Calls Try.prog 26 #[.int .i64 (Tk.own a), .int .i64 n] w fun e w' => e = .returned (.bool (Tk.dueB a n)) ∧ w = w' := by
  have := Tk.own_le a ha
  rw [← Du.due_own a n ha]
  exact due_any _ _ (by omega) hn w
set_option maxHeartbeats 2000000 in
theorem over_any (u l c n : Int) (hu : u ≤ 9223372036854775807) (hl : l ≤ 9223372036854775807) (hc : c ≤ 9223372036854775807) (hn : n ≤ 9223372036854775807) (w : World) : Calls Try.prog 15 #[.agg #[.int .i64 u, .int .i64 l, .int .i64 c], .int .i64 n] w fun e w' => e = .returned (.tuple #[.int .i64 (Du.over l c n), .bool (decide (0 < Du.over l c n))]) ∧ Below w.heap.size w w' := by
  have o1 := Tk.own_le l hl
  have o2 := Tk.own_le c hc
  cases h1 : Tk.dueB l n
  case true =>
    by_cases h2 : Tk.own l ≤ Tk.own c
    · have HV : Hid (Du.over l c n = 3) := Lib.hid (by unfold Du.over; simp [*])
      go_enter Try.func15, Try.ntmps15
      go_wp2
      go_quiet ((first | (go_at_call 25; exact quietw (own_any _ _)) | (go_at_call 25; exact quietwa (own_any _ _))))
      go_wp2_with (go_at_call 26; refine (due_own_any _ _ (by omega) (by omega) _).mono ?_; rintro e w' ⟨rfl, rfl⟩)
      go_ret2
      exact ⟨by rw [HV.out]; rfl, below_drewN (by go_grown) _⟩
    · have h4 : Tk.own c < Tk.own l := by omega
      cases h3 : Tk.dueB c n
      case true =>
        have HV : Hid (Du.over l c n = 5) := Lib.hid (by unfold Du.over; simp [*])
        go_enter Try.func15, Try.ntmps15
        go_wp2
        go_quiet ((first | (go_at_call 25; exact quietw (own_any _ _)) | (go_at_call 25; exact quietwa (own_any _ _))))
        go_wp2_with (go_at_call 26; refine (due_own_any _ _ (by omega) (by omega) _).mono ?_; rintro e w' ⟨rfl, rfl⟩)
        go_ret2
        exact ⟨by rw [HV.out]; rfl, below_drewN (by go_grown) _⟩
      case false =>
        have HV : Hid (Du.over l c n = 0) := Lib.hid (by unfold Du.over; simp [*])
        go_enter Try.func15, Try.ntmps15
        go_wp2
        go_quiet ((first | (go_at_call 25; exact quietw (own_any _ _)) | (go_at_call 25; exact quietwa (own_any _ _))))
        go_wp2_with (go_at_call 26; refine (due_own_any _ _ (by omega) (by omega) _).mono ?_; rintro e w' ⟨rfl, rfl⟩)
        go_ret2
        exact ⟨by rw [HV.out]; rfl, below_drewN (by go_grown) _⟩
  case false =>
    cases h3 : Tk.dueB c n
    case true =>
      by_cases h4 : Tk.own c < Tk.own l
      · have HV : Hid (Du.over l c n = 5) := Lib.hid (by unfold Du.over; simp [*])
        go_enter Try.func15, Try.ntmps15
        go_wp2
        go_quiet ((first | (go_at_call 25; exact quietw (own_any _ _)) | (go_at_call 25; exact quietwa (own_any _ _))))
        go_wp2_with (go_at_call 26; refine (due_own_any _ _ (by omega) (by omega) _).mono ?_; rintro e w' ⟨rfl, rfl⟩)
        go_ret2
        exact ⟨by rw [HV.out]; rfl, below_drewN (by go_grown) _⟩
      · have HV : Hid (Du.over l c n = 0) := Lib.hid (by unfold Du.over; simp [*])
        go_enter Try.func15, Try.ntmps15
        go_wp2
        go_quiet ((first | (go_at_call 25; exact quietw (own_any _ _)) | (go_at_call 25; exact quietwa (own_any _ _))))
        go_wp2_with (go_at_call 26; refine (due_own_any _ _ (by omega) (by omega) _).mono ?_; rintro e w' ⟨rfl, rfl⟩)
        go_ret2
        exact ⟨by rw [HV.out]; rfl, below_drewN (by go_grown) _⟩
    case false =>
      have HV : Hid (Du.over l c n = 0) := Lib.hid (by unfold Du.over; simp [*])
      go_enter Try.func15, Try.ntmps15
      go_wp2
      go_quiet ((first | (go_at_call 25; exact quietw (own_any _ _)) | (go_at_call 25; exact quietwa (own_any _ _))))
      go_wp2_with (go_at_call 26; refine (due_own_any _ _ (by omega) (by omega) _).mono ?_; rintro e w' ⟨rfl, rfl⟩)
      go_ret2
      exact ⟨by rw [HV.out]; rfl, below_drewN (by go_grown) _⟩
set_option maxHeartbeats 2000000 in
theorem rover_any (u l c n : Int) (hu : u ≤ 9223372036854775807) (hl : l ≤ 9223372036854775807) (hc : c ≤ 9223372036854775807) (hn : n ≤ 9223372036854775807) (w : World) : Calls Try.prog 17 #[.agg #[.int .i64 u, .int .i64 l, .int .i64 c], .int .i64 n] w fun e w' => e = .returned (.int .i64 (Du.over l c n)) ∧ Below w.heap.size w w' := by
  have o1 := Tk.own_le l hl
  have o2 := Tk.own_le c hc
  cases h1 : Tk.dueB l n
  case true =>
    by_cases h2 : Tk.own l ≤ Tk.own c
    · have HV : Hid (Du.over l c n = 3) := Lib.hid (by unfold Du.over; simp [*])
      go_enter Try.func17, Try.ntmps17
      go_wp2
      go_quiet ((first | (go_at_call 27; exact quietw (rown_any _ _)) | (go_at_call 27; exact quietwa (rown_any _ _)) | (go_at_call 18; exact quietw (rdue_any _ _ (by omega) (by omega) _)) | (go_at_call 18; exact quietwa (rdue_any _ _ (by omega) (by omega) _))))
      go_wp2
      go_quiet ((first | (go_at_call 27; exact quietw (rown_any _ _)) | (go_at_call 27; exact quietwa (rown_any _ _)) | (go_at_call 18; exact quietw (rdue_any _ _ (by omega) (by omega) _)) | (go_at_call 18; exact quietwa (rdue_any _ _ (by omega) (by omega) _))))
      go_wp2
      go_ret
      exact ⟨ret_i64 HV.out.symm, below_drewN (below_drewN ((Below.refl _ _).alloc (Nat.le_refl _) _) _) _⟩
    · have h4 : Tk.own c < Tk.own l := by omega
      cases h3 : Tk.dueB c n
      case true =>
        have HV : Hid (Du.over l c n = 5) := Lib.hid (by unfold Du.over; simp [*])
        go_enter Try.func17, Try.ntmps17
        go_wp2
        go_quiet ((first | (go_at_call 27; exact quietw (rown_any _ _)) | (go_at_call 27; exact quietwa (rown_any _ _)) | (go_at_call 18; exact quietw (rdue_any _ _ (by omega) (by omega) _)) | (go_at_call 18; exact quietwa (rdue_any _ _ (by omega) (by omega) _))))
        go_wp2
        go_quiet ((first | (go_at_call 27; exact quietw (rown_any _ _)) | (go_at_call 27; exact quietwa (rown_any _ _)) | (go_at_call 18; exact quietw (rdue_any _ _ (by omega) (by omega) _)) | (go_at_call 18; exact quietwa (rdue_any _ _ (by omega) (by omega) _))))
        go_wp2
        go_quiet ((first | (go_at_call 27; exact quietw (rown_any _ _)) | (go_at_call 27; exact quietwa (rown_any _ _)) | (go_at_call 18; exact quietw (rdue_any _ _ (by omega) (by omega) _)) | (go_at_call 18; exact quietwa (rdue_any _ _ (by omega) (by omega) _))))
        go_wp2
        go_ret
        exact ⟨ret_i64 HV.out.symm, below_drewN (below_drewN (below_drewN ((Below.refl _ _).alloc (Nat.le_refl _) _) _) _) _⟩
      case false =>
        have HV : Hid (Du.over l c n = 0) := Lib.hid (by unfold Du.over; simp [*])
        go_enter Try.func17, Try.ntmps17
        go_wp2
        go_quiet ((first | (go_at_call 27; exact quietw (rown_any _ _)) | (go_at_call 27; exact quietwa (rown_any _ _)) | (go_at_call 18; exact quietw (rdue_any _ _ (by omega) (by omega) _)) | (go_at_call 18; exact quietwa (rdue_any _ _ (by omega) (by omega) _))))
        go_wp2
        go_quiet ((first | (go_at_call 27; exact quietw (rown_any _ _)) | (go_at_call 27; exact quietwa (rown_any _ _)) | (go_at_call 18; exact quietw (rdue_any _ _ (by omega) (by omega) _)) | (go_at_call 18; exact quietwa (rdue_any _ _ (by omega) (by omega) _))))
        go_wp2
        go_quiet ((first | (go_at_call 27; exact quietw (rown_any _ _)) | (go_at_call 27; exact quietwa (rown_any _ _)) | (go_at_call 18; exact quietw (rdue_any _ _ (by omega) (by omega) _)) | (go_at_call 18; exact quietwa (rdue_any _ _ (by omega) (by omega) _))))
        go_wp2
        go_ret
        exact ⟨ret_i64 HV.out.symm, below_drewN (below_drewN (below_drewN ((Below.refl _ _).alloc (Nat.le_refl _) _) _) _) _⟩
  case false =>
    cases h3 : Tk.dueB c n
    case true =>
      by_cases h4 : Tk.own c < Tk.own l
      · have HV : Hid (Du.over l c n = 5) := Lib.hid (by unfold Du.over; simp [*])
        go_enter Try.func17, Try.ntmps17
        go_wp2
        go_quiet ((first | (go_at_call 27; exact quietw (rown_any _ _)) | (go_at_call 27; exact quietwa (rown_any _ _)) | (go_at_call 18; exact quietw (rdue_any _ _ (by omega) (by omega) _)) | (go_at_call 18; exact quietwa (rdue_any _ _ (by omega) (by omega) _))))
        go_wp2
        go_quiet ((first | (go_at_call 27; exact quietw (rown_any _ _)) | (go_at_call 27; exact quietwa (rown_any _ _)) | (go_at_call 18; exact quietw (rdue_any _ _ (by omega) (by omega) _)) | (go_at_call 18; exact quietwa (rdue_any _ _ (by omega) (by omega) _))))
        go_wp2
        go_quiet ((first | (go_at_call 27; exact quietw (rown_any _ _)) | (go_at_call 27; exact quietwa (rown_any _ _)) | (go_at_call 18; exact quietw (rdue_any _ _ (by omega) (by omega) _)) | (go_at_call 18; exact quietwa (rdue_any _ _ (by omega) (by omega) _))))
        go_wp2
        go_ret
        exact ⟨ret_i64 HV.out.symm, below_drewN (below_drewN (below_drewN ((Below.refl _ _).alloc (Nat.le_refl _) _) _) _) _⟩
      · have HV : Hid (Du.over l c n = 0) := Lib.hid (by unfold Du.over; simp [*])
        go_enter Try.func17, Try.ntmps17
        go_wp2
        go_quiet ((first | (go_at_call 27; exact quietw (rown_any _ _)) | (go_at_call 27; exact quietwa (rown_any _ _)) | (go_at_call 18; exact quietw (rdue_any _ _ (by omega) (by omega) _)) | (go_at_call 18; exact quietwa (rdue_any _ _ (by omega) (by omega) _))))
        go_wp2
        go_quiet ((first | (go_at_call 27; exact quietw (rown_any _ _)) | (go_at_call 27; exact quietwa (rown_any _ _)) | (go_at_call 18; exact quietw (rdue_any _ _ (by omega) (by omega) _)) | (go_at_call 18; exact quietwa (rdue_any _ _ (by omega) (by omega) _))))
        go_wp2
        go_quiet ((first | (go_at_call 27; exact quietw (rown_any _ _)) | (go_at_call 27; exact quietwa (rown_any _ _)) | (go_at_call 18; exact quietw (rdue_any _ _ (by omega) (by omega) _)) | (go_at_call 18; exact quietwa (rdue_any _ _ (by omega) (by omega) _))))
        go_wp2
        go_ret
        exact ⟨ret_i64 HV.out.symm, below_drewN (below_drewN (below_drewN ((Below.refl _ _).alloc (Nat.le_refl _) _) _) _) _⟩
    case false =>
      have HV : Hid (Du.over l c n = 0) := Lib.hid (by unfold Du.over; simp [*])
      go_enter Try.func17, Try.ntmps17
      go_wp2
      go_quiet ((first | (go_at_call 27; exact quietw (rown_any _ _)) | (go_at_call 27; exact quietwa (rown_any _ _)) | (go_at_call 18; exact quietw (rdue_any _ _ (by omega) (by omega) _)) | (go_at_call 18; exact quietwa (rdue_any _ _ (by omega) (by omega) _))))
      go_wp2
      go_quiet ((first | (go_at_call 27; exact quietw (rown_any _ _)) | (go_at_call 27; exact quietwa (rown_any _ _)) | (go_at_call 18; exact quietw (rdue_any _ _ (by omega) (by omega) _)) | (go_at_call 18; exact quietwa (rdue_any _ _ (by omega) (by omega) _))))
      go_wp2
      go_quiet ((first | (go_at_call 27; exact quietw (rown_any _ _)) | (go_at_call 27; exact quietwa (rown_any _ _)) | (go_at_call 18; exact quietw (rdue_any _ _ (by omega) (by omega) _)) | (go_at_call 18; exact quietwa (rdue_any _ _ (by omega) (by omega) _))))
      go_wp2
      go_ret
      exact ⟨ret_i64 HV.out.symm, below_drewN (below_drewN (below_drewN ((Below.refl _ _).alloc (Nat.le_refl _) _) _) _) _⟩
end Go.Proofs.Ythcompdlifdamaa
