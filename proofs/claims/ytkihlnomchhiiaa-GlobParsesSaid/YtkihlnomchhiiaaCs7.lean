/- Contracts of sets of bytes: its text. -/
import Derived.Test.YtkihlnomchhiiaaCs6
namespace Go.Proofs.Ytkihlnomchhiiaa
open Go.ChangeShapes Go.WideShapes Go.ChangeAt Go.RowKit
set_option linter.unusedSimpArgs false
set_option linter.unusedVariables false

set_option maxRecDepth 20000 in
theorem print_no (X : BitVec 256) (h : Cs.neg X = false) (t : ByteArray) (ht : t.data.toList = Cs.prt X) (w : World) :
    Calls Try.prog 39 #[Cs.sv X] w fun e w' => e = .returned (.string t) ∧ Below w.heap.size w w' := by
  obtain ⟨u, hu⟩ := text_mk (Cs.ptx X)
  have HU := Lib.hid hu
  have hle : u.size ≤ 1280 := by rw [size_of hu]; exact Cs.ptx_le X
  have HT : Hid ((({ data := #[91] } : ByteArray) ++ u) ++ ({ data := #[93] } : ByteArray) = t) := Lib.hid (text_ext (by
    rw [ht]; unfold Cs.prt Cs.told; rw [h]
    simp [ByteArray.data_append, hu]))
  obtain ⟨n, hn⟩ : ∃ n, Cs.cnt X.getLsbD 256 = n := ⟨_, rfl⟩
  have HN := Lib.hid hn
  have hcase : Hid (¬ n = 0 ∧ (n ≤ 128 ∨ 128 < n ∧ 256 ≤ n)) := Lib.hid (by
    unfold Cs.neg at h; rw [hn] at h
    simp at h; omega)
  have h0 := hcase.out.1
  have h1 : ((n : Int) == 0) = false := by rw [beq_eq_false_iff_ne]; omega
  clear hu hn ht h
  have hc : Hid (SB (w.alloc (.cells #[.int .u64 (Cs.wd X 0), .int .u64 (Cs.wd X 1), .int .u64 (Cs.wd X 2), .int .u64 (Cs.wd X 3)] 38)) w.heap.size X ∧ Below w.heap.size w (w.alloc (.cells #[.int .u64 (Cs.wd X 0), .int .u64 (Cs.wd X 1), .int .u64 (Cs.wd X 2), .int .u64 (Cs.wd X 3)] 38))) := Lib.hid ⟨SB.new w X, (Below.refl _ _).alloc (Nat.le_refl _) _⟩
  unfold Cs.sv
  rcases hcase.out.2 with h2 | ⟨h2, h3⟩
  all_goals
    go_enter Try.func39, Try.ntmps39
    go_upto_region 1 with fail
    revert hc
    generalize w.alloc (.cells #[.int .u64 (Cs.wd X 0), .int .u64 (Cs.wd X 1), .int .u64 (Cs.wd X 2), .int .u64 (Cs.wd X 3)] 38) = W
    intro hc
    have x0 := hc.out.1.at (i := 0) (by decide)
    have x1 := hc.out.1.at (i := 1) (by decide)
    have x2 := hc.out.1.at (i := 2) (by decide)
    have x3 := hc.out.1.at (i := 3) (by decide)
    go_wp2_with (first
      | (go_at_call 37; rw [sv_def X]; refine (cs_len X _).mono ?_; rintro e W1 ⟨rfl, hb1⟩; rw [HN.out]; have HB1 : Hid (SB W1 w.heap.size X ∧ Below w.heap.size w W1) := Lib.hid ⟨hc.out.1.below hb1, hc.out.2.trans (hb1.mono hc.out.2.size)⟩; clear hb1 x0 x1 x2 x3; have x0 := HB1.out.1.at (i := 0) (by decide); have x1 := HB1.out.1.at (i := 1) (by decide); have x2 := HB1.out.1.at (i := 2) (by decide); have x3 := HB1.out.1.at (i := 3) (by decide))
      | (go_at_call 47; rw [sv_def X]; refine (cs_parts X u HU.out _).mono ?_; rintro e W3 ⟨rfl, hb3⟩; have HB3 : Hid (Below w.heap.size w W3) := Lib.hid (HB1.out.2.trans (hb3.mono HB1.out.2.size)); clear hb3 x0 x1 x2 x3))
    go_ret
    exact ⟨by rw [HT.out]; rfl, HB3.out⟩
set_option maxRecDepth 20000 in
theorem print_yes (X : BitVec 256) (h : Cs.neg X = true) (t : ByteArray) (ht : t.data.toList = Cs.prt X) (w : World) :
    Calls Try.prog 39 #[Cs.sv X] w fun e w' => e = .returned (.string t) ∧ Below w.heap.size w w' := by
  obtain ⟨u, hu⟩ := text_mk (Cs.ptx (~~~X))
  have HU := Lib.hid hu
  have hle : u.size ≤ 1280 := by rw [size_of hu]; exact Cs.ptx_le _
  have HT : Hid ((({ data := #[91, 94] } : ByteArray) ++ u) ++ ({ data := #[93] } : ByteArray) = t) := Lib.hid (text_ext (by
    rw [ht]; unfold Cs.prt Cs.told; rw [h]
    simp [ByteArray.data_append, hu]))
  obtain ⟨n, hn⟩ : ∃ n, Cs.cnt X.getLsbD 256 = n := ⟨_, rfl⟩
  have HN := Lib.hid hn
  have hcase : Hid (n = 0 ∨ ¬ n = 0 ∧ 128 < n ∧ n < 256) := Lib.hid (by
    unfold Cs.neg at h; rw [hn] at h
    simp at h; omega)
  clear hu hn ht h
  have hc : Hid (SB (w.alloc (.cells #[.int .u64 (Cs.wd X 0), .int .u64 (Cs.wd X 1), .int .u64 (Cs.wd X 2), .int .u64 (Cs.wd X 3)] 38)) w.heap.size X ∧ Below w.heap.size w (w.alloc (.cells #[.int .u64 (Cs.wd X 0), .int .u64 (Cs.wd X 1), .int .u64 (Cs.wd X 2), .int .u64 (Cs.wd X 3)] 38))) := Lib.hid ⟨SB.new w X, (Below.refl _ _).alloc (Nat.le_refl _) _⟩
  unfold Cs.sv
  rcases hcase.out with h2 | ⟨h1, h2, h3⟩
  · subst h2
    go_enter Try.func39, Try.ntmps39
    go_upto_region 1 with fail
    revert hc
    generalize w.alloc (.cells #[.int .u64 (Cs.wd X 0), .int .u64 (Cs.wd X 1), .int .u64 (Cs.wd X 2), .int .u64 (Cs.wd X 3)] 38) = W
    intro hc
    have x0 := hc.out.1.at (i := 0) (by decide)
    have x1 := hc.out.1.at (i := 1) (by decide)
    have x2 := hc.out.1.at (i := 2) (by decide)
    have x3 := hc.out.1.at (i := 3) (by decide)
    go_wp2_with (first
      | (go_at_call 37; rw [sv_def X]; refine (cs_len X _).mono ?_; rintro e W1 ⟨rfl, hb1⟩; rw [HN.out]; have HB1 : Hid (SB W1 w.heap.size X ∧ Below w.heap.size w W1) := Lib.hid ⟨hc.out.1.below hb1, hc.out.2.trans (hb1.mono hc.out.2.size)⟩; clear hb1 x0 x1 x2 x3; have x0 := HB1.out.1.at (i := 0) (by decide); have x1 := HB1.out.1.at (i := 1) (by decide); have x2 := HB1.out.1.at (i := 2) (by decide); have x3 := HB1.out.1.at (i := 3) (by decide))
      | (go_at_call 42; rw [sv_def X]; refine (cs_not X _).mono ?_; rintro e W2 ⟨rfl, hb2⟩; have HB2 : Hid (Below w.heap.size w W2) := Lib.hid (HB1.out.2.trans (hb2.mono HB1.out.2.size)); clear hb2 x0 x1 x2 x3)
      | (go_at_call 47; refine (cs_parts (~~~X) u HU.out _).mono ?_; rintro e W3 ⟨rfl, hb3⟩; have HB3 : Hid (Below w.heap.size w W3) := Lib.hid (HB2.out.trans (hb3.mono HB2.out.size)); clear hb3))
    go_ret
    exact ⟨by rw [HT.out]; rfl, HB3.out⟩
  · have h1 : ((n : Int) == 0) = false := by rw [beq_eq_false_iff_ne]; omega
    go_enter Try.func39, Try.ntmps39
    go_upto_region 1 with fail
    revert hc
    generalize w.alloc (.cells #[.int .u64 (Cs.wd X 0), .int .u64 (Cs.wd X 1), .int .u64 (Cs.wd X 2), .int .u64 (Cs.wd X 3)] 38) = W
    intro hc
    have x0 := hc.out.1.at (i := 0) (by decide)
    have x1 := hc.out.1.at (i := 1) (by decide)
    have x2 := hc.out.1.at (i := 2) (by decide)
    have x3 := hc.out.1.at (i := 3) (by decide)
    go_wp2_with (first
      | (go_at_call 37; rw [sv_def X]; refine (cs_len X _).mono ?_; rintro e W1 ⟨rfl, hb1⟩; rw [HN.out]; have HB1 : Hid (SB W1 w.heap.size X ∧ Below w.heap.size w W1) := Lib.hid ⟨hc.out.1.below hb1, hc.out.2.trans (hb1.mono hc.out.2.size)⟩; clear hb1 x0 x1 x2 x3; have x0 := HB1.out.1.at (i := 0) (by decide); have x1 := HB1.out.1.at (i := 1) (by decide); have x2 := HB1.out.1.at (i := 2) (by decide); have x3 := HB1.out.1.at (i := 3) (by decide))
      | (go_at_call 42; rw [sv_def X]; refine (cs_not X _).mono ?_; rintro e W2 ⟨rfl, hb2⟩; have HB2 : Hid (Below w.heap.size w W2) := Lib.hid (HB1.out.2.trans (hb2.mono HB1.out.2.size)); clear hb2 x0 x1 x2 x3)
      | (go_at_call 47; refine (cs_parts (~~~X) u HU.out _).mono ?_; rintro e W3 ⟨rfl, hb3⟩; have HB3 : Hid (Below w.heap.size w W3) := Lib.hid (HB2.out.trans (hb3.mono HB2.out.size)); clear hb3))
    go_ret
    exact ⟨by rw [HT.out]; rfl, HB3.out⟩
theorem cs_print (X : BitVec 256) (t : ByteArray) (ht : t.data.toList = Cs.prt X) (w : World) :
    Calls Try.prog 39 #[Cs.sv X] w fun e w' => e = .returned (.string t) ∧ Below w.heap.size w w' := by
  cases h : Cs.neg X
  · exact print_no X h t ht w
  · exact print_yes X h t ht w
end Go.Proofs.Ytkihlnomchhiiaa
