/- The document's own answers on sets of bytes: a set's text. -/
import Derived.Test.YtkihlnomchhiiaaCsR6
namespace Go.Proofs.Ytkihlnomchhiiaa
open Go.ChangeShapes Go.WideShapes Go.ChangeAt Go.RowKit
set_option linter.unusedSimpArgs false
set_option linter.unusedVariables false

theorem runF_math (X : BitVec 256) : ∀ n b, b + n + 1 = 256 → (∀ j, j ≤ Cs.run1 (UInt8.ofNat b) (Cs.memF X (b + 1)) → b + j < 256 ∧ (j = 0 ∨ X.getLsbD (b + j) = true)) ∧ (b + Cs.run1 (UInt8.ofNat b) (Cs.memF X (b + 1)) + 1 < 256 → X.getLsbD (b + Cs.run1 (UInt8.ofNat b) (Cs.memF X (b + 1)) + 1) = false) ∧ (Cs.memF X (b + 1)).drop (Cs.run1 (UInt8.ofNat b) (Cs.memF X (b + 1))) = Cs.memF X (b + Cs.run1 (UInt8.ofNat b) (Cs.memF X (b + 1)) + 1)
  | 0, b, h => by
    obtain rfl : b = 255 := by omega
    refine ⟨fun j hj => ?_, fun h => absurd h (by omega), rfl⟩
    rw [show (255 : Nat) + 1 = 256 from rfl, Cs.memF_end] at hj
    have : j = 0 := by simpa [Cs.run1] using hj
    subst this; exact ⟨by omega, Or.inl rfl⟩
  | n + 1, b, h => by
    have hs := Cs.memF_step X (b + 1) (by omega)
    cases hz : X.getLsbD (b + 1) with
    | true =>
      rw [hz] at hs
      simp only [if_true] at hs
      have hr : Cs.run1 (UInt8.ofNat b) (Cs.memF X (b + 1)) = Cs.run1 (UInt8.ofNat (b + 1)) (Cs.memF X (b + 1 + 1)) + 1 := by
        rw [hs, Cs.run1, if_pos (by rw [Cs.toNat_lt (by omega), Cs.toNat_lt (by omega)])]
      obtain ⟨i1, i2, i3⟩ := runF_math X n (b + 1) (by omega)
      rw [hr]
      refine ⟨fun j hj => ?_, fun h => ?_, ?_⟩
      · cases j with
        | zero => exact ⟨by omega, Or.inl rfl⟩
        | succ j =>
          obtain ⟨k1, k2⟩ := i1 j (by omega)
          refine ⟨by omega, Or.inr ?_⟩
          rcases k2 with e | e
          · subst e; exact hz
          · rw [show b + (j + 1) = b + 1 + j by omega]; exact e
      · have := i2 (by omega)
        rw [← this]; congr 1; omega
      · rw [hs, List.drop_succ_cons, i3]; congr 1; omega
    | false =>
      rw [hz] at hs
      simp only [Bool.false_eq_true, if_false] at hs
      have hr : Cs.run1 (UInt8.ofNat b) (Cs.memF X (b + 1)) = 0 := by
        have hge := Cs.memF_ge X n (b + 1 + 1) (by omega)
        rw [hs]
        cases hm : Cs.memF X (b + 1 + 1) with
        | nil => rfl
        | cons d r =>
          have := hge d (by rw [hm]; simp)
          rw [Cs.run1, if_neg (by rw [Cs.toNat_lt (by omega)]; omega)]
      rw [hr]
      refine ⟨fun j hj => ⟨by omega, Or.inl (by omega)⟩, fun _ => hz, rfl⟩
set_option maxRecDepth 20000 in
set_option maxHeartbeats 2000000 in
theorem rf_print_no (X : BitVec 256) (hneg : Cs.neg X = false) (t : ByteArray) (ht : t.data.toList = Cs.prt X) (w : World) :
    Calls Try.prog 27 #[Cs.sv X] w fun e w' => e = .returned (.string t) ∧ Below w.heap.size w w' := by
  obtain ⟨u0, hu0⟩ := text_mk (Cs.memT X 256)
  have HU0 := Lib.hid hu0
  obtain ⟨n, hn⟩ : ∃ n, u0.size = n := ⟨_, rfl⟩
  have hcn : Cs.cnt X.getLsbD 256 = n := by rw [← hn, size_of hu0, Cs.memT_len]
  obtain ⟨Z, hZ⟩ : ∃ Z, X = Z := ⟨_, rfl⟩
  obtain ⟨hd, hhd⟩ : ∃ hd : List UInt8, [91] = hd := ⟨_, rfl⟩
  have HH : Hid ((({ data := #[91] } : ByteArray).data.toList ++ Cs.txt (Cs.prP 257 (Cs.memT Z 256)) = hd ++ Cs.ptx Z) ∧ t.data.toList = hd ++ Cs.ptx Z ++ [93]) := Lib.hid ⟨by rw [← hhd]; rfl, by
    rw [ht]; unfold Cs.prt Cs.told; rw [hneg, ← hhd, ← hZ]; rfl⟩
  have hcase : Hid (¬ n = 0 ∧ n ≤ 128 ∨ ¬ n = 0 ∧ 128 < n ∧ 256 ≤ n) := Lib.hid (by
    unfold Cs.neg at hneg; rw [hcn] at hneg
    simp at hneg; omega)
  have hn256 : n ≤ 256 := by rw [← hcn]; exact Cs.cnt_le _ _
  have HX := Lib.hid hZ
  have HNN := Lib.hid hn
  clear hu0 hcn hneg ht hZ hhd
  have hc : Hid (SB (w.alloc (.cells #[.int .u64 (Cs.wd X 0), .int .u64 (Cs.wd X 1), .int .u64 (Cs.wd X 2), .int .u64 (Cs.wd X 3)] 38)) w.heap.size X ∧ Below w.heap.size w (w.alloc (.cells #[.int .u64 (Cs.wd X 0), .int .u64 (Cs.wd X 1), .int .u64 (Cs.wd X 2), .int .u64 (Cs.wd X 3)] 38))) := Lib.hid ⟨SB.new w X, (Below.refl _ _).alloc (Nat.le_refl _) _⟩
  unfold Cs.sv
  rcases hcase.out with ⟨h1, h2⟩ | ⟨h1, h2, h3⟩
  all_goals
    have g1 : ((n : Int) == 0) = false := by rw [beq_eq_false_iff_ne]; omega
    go_enter Try.func27, Try.ntmps27
    go_upto_region 1 with fail
    revert hc
    generalize w.alloc (.cells #[.int .u64 (Cs.wd X 0), .int .u64 (Cs.wd X 1), .int .u64 (Cs.wd X 2), .int .u64 (Cs.wd X 3)] 38) = W
    intro hc
    have x0 := hc.out.1.at (i := 0) (by decide)
    have x1 := hc.out.1.at (i := 1) (by decide)
    have x2 := hc.out.1.at (i := 2) (by decide)
    have x3 := hc.out.1.at (i := 3) (by decide)
    go_upto_region 4 with (go_at_call 25; rw [sv_def X]; refine (rf_bytes X u0 HU0.out _).mono ?_; rintro e W1 ⟨rfl, hb1⟩; have HB1 : Hid (SB W1 w.heap.size X ∧ Below w.heap.size w W1) := Lib.hid ⟨hc.out.1.below hb1, hc.out.2.trans (hb1.mono hc.out.2.size)⟩; clear hb1 x0 x1 x2 x3; have x0 := HB1.out.1.at (i := 0) (by decide); have x1 := HB1.out.1.at (i := 1) (by decide); have x2 := HB1.out.1.at (i := 2) (by decide); have x3 := HB1.out.1.at (i := 3) (by decide))
    have HW3 : Hid (SB W1 w.heap.size Z ∧ Below w.heap.size w W1) := Lib.hid (by have := HB1.out; rw [← HX.out]; exact this)
    clear x0 x1 x2 x3
    have z0 := HW3.out.1.at (i := 0) (by decide)
    have z1 := HW3.out.1.at (i := 1) (by decide)
    have z2 := HW3.out.1.at (i := 2) (by decide)
    have z3 := HW3.out.1.at (i := 3) (by decide)
    go_wp2_with (first
      | (go_at_call 40; rw [sv_def Z]; refine (rf_flags Z _).mono ?_; rintro e W4 ⟨g0, cap0, rfl, h1, h2, h3⟩; have HG : Hid (Rw W4 g0 cap0 (bl Z.getLsbD 256) 4 ∧ Below w.heap.size w W4 ∧ w.heap.size ≤ g0) := Lib.hid ⟨h2, HW3.out.2.trans (h3.mono HW3.out.2.size), Nat.le_trans HW3.out.2.size h1⟩; clear h1 h2 h3)
      | (at_builtin; refine wpList_append_rw _ rfl (.tmp 24) (.tmp 25) 51 51 rfl 4 (.bool false) 1 Try.underlying51 infob rfl g0 256 cap0 (bl Z.getLsbD 256) rfl (bl_length _ _) (HG.out.1.chg ((Chg.refl [] _).alloc _) (by simp)) _ rfl 1 _ (Src.ofSlice _ Try.underlying51 ⟨_, 0, none⟩ 1 1 [.bool false] rfl (one_new _ _ _) (one_b _)) (by omega) (by omega) ?_; intro g cap W5 r1 r2 r3; have HB : Hid (Rw W5 g cap (bl Z.getLsbD 257) 4 ∧ Below w.heap.size w W5) := Lib.hid (by
          have hsz := HG.out.2.1.size
          have hg0 := HG.out.2.2
          refine ⟨?_, r3.onto (HG.out.2.1.alloc hsz _) (by simp; omega) (by simp; omega)⟩
          rw [bl_snoc, show Z.getLsbD 256 = false from BitVec.getLsbD_of_ge _ _ (by omega)]; exact r1); clear r1 r2 r3))
    go_loopw [3, 6] (fun v i wr => ∃ (b : Nat) (acc : ByteArray), i = .int .i64 b ∧ v = .string acc ∧ b ≤ 256 ∧ acc.size ≤ 2 + 5 * b ∧ Hid (∃ f, acc.data.toList ++ Cs.txt (Cs.prP f (Cs.memF Z b)) = hd ++ Cs.ptx Z ∧ 256 - b < f) ∧ Hid (Rw wr g cap (bl Z.getLsbD 257) 4 ∧ Below w.heap.size w wr)) (fun _ i _ => 256 - (intOf i).toNat)
    case atStart => exact ⟨0, _, rfl, rfl, by omega, by decide, Lib.hid ⟨257, by rw [Cs.memF_zero]; exact HH.out.1, by omega⟩, HB⟩
    case round =>
      clear HB
      obtain ⟨b, acc, rfl, rfl, hb, hacc, HF, HB⟩ := hrel
      have j0 : (0 : Int) ≤ (b : Int) := by omega
      by_cases hbl : b < 256
      · cases hz : Z.getLsbD b with
        | false =>
          have HF2 : Hid (∃ f, acc.data.toList ++ Cs.txt (Cs.prP f (Cs.memF Z (b + 1))) = hd ++ Cs.ptx Z ∧ 256 - (b + 1) < f) := Lib.hid (by
            obtain ⟨f, h1, h2⟩ := HF.out
            rw [Cs.memF_step Z b hbl, hz] at h1
            exact ⟨f, h1, by omega⟩)
          have c := HB.out.1.cell (bl_at Z.getLsbD (n := 257) (i := b) (by omega))
          rw [hz] at c
          have w0 : IntKind.i64.wrap ((b : Int) - b) = 0 := by rw [Int.sub_self]; rfl
          clear hz
          go_wp2
          go_loopw [7] (fun i wr' => i = .int .i64 b ∧ wr' = wr) (fun i _ => 0)
          case atStart => exact ⟨rfl, rfl⟩
          case round =>
            obtain ⟨rfl, rfl⟩ := hrel
            go_wp2
            refine ⟨?_, ?measure⟩
            case measure => first | (simp [intOf]; done) | (simp [intOf]; omega)
            first
              | exact ⟨b + 1, acc, by go_num, rfl, by omega, by omega, HF2, HB⟩
              | ((repeat apply Exists.intro); exact ⟨⟨b + 1, acc, by go_num, rfl, by omega, by omega, HF2, HB⟩, rfl⟩)
        | true =>
          obtain ⟨m, hm⟩ : ∃ m, Cs.run1 (UInt8.ofNat b) (Cs.memF Z (b + 1)) = m := ⟨_, rfl⟩
          have HR := Lib.hid (runF_math Z (256 - b - 1) b (by omega))
          rw [hm] at HR
          have hbm : b + m < 256 := (HR.out.1 m (Nat.le_refl _)).1
          have HZ : Hid (∀ i, i ≤ m → Z.getLsbD (b + i) = true) := Lib.hid (fun i hi => by
            rcases (HR.out.1 i hi).2 with e | e
            · subst e; exact hz
            · exact e)
          have HZ2 : Hid (Z.getLsbD (b + m + 1) = false) := Lib.hid (by
            rcases Nat.lt_or_ge (b + m + 1) 256 with h | h
            · exact HR.out.2.1 h
            · exact BitVec.getLsbD_of_ge _ _ h)
          have HF1 : Hid (∃ f, acc.data.toList ++ Cs.txt (Cs.prP (f + 1) (UInt8.ofNat b :: Cs.memF Z (b + 1))) = hd ++ Cs.ptx Z ∧ 256 - b < f + 1) := Lib.hid (by
            obtain ⟨f, h1, h2⟩ := HF.out
            obtain ⟨f, rfl⟩ : ∃ g, f = g + 1 := ⟨f - 1, by omega⟩
            rw [Cs.memF_step Z b hbl, hz] at h1
            exact ⟨f, h1, h2⟩)
          have HM := Lib.hid hm
          clear hz HF hm
          go_wp2
          go_loopw [7] (fun i wr' => ∃ k : Nat, i = .int .i64 ((b + k : Nat) : Int) ∧ k ≤ m + 1 ∧ wr' = wr) (fun i _ => 300 - (intOf i).toNat)
          case atStart => exact ⟨0, rfl, by omega, rfl⟩
          case round =>
            obtain ⟨k, rfl, hk, rfl⟩ := hrel
            obtain ⟨q, hq⟩ : ∃ q, b + k = q := ⟨_, rfl⟩
            rw [hq]
            have HQ := Lib.hid hq
            have q0 : (0 : Int) ≤ (q : Int) := by omega
            have hq257 : q < 257 := by omega
            have c := HB.out.1.cell (bl_at Z.getLsbD (n := 257) (i := q) hq257)
            by_cases hkm : k ≤ m
            · have := HZ.out k hkm
              rw [hq] at this
              rw [this] at c
              clear this hq
              go_wp2
              refine ⟨?_, ?measure⟩
              case measure => simp [intOf]; omega
              first
                | exact ⟨k + 1, by rw [← Nat.add_assoc, HQ.out]; go_num, by omega, rfl⟩
                | exact ⟨k + 1, by rw [← Nat.add_assoc, HQ.out]; go_num, by omega, trivial⟩
                | ((repeat apply Exists.intro); exact ⟨⟨k + 1, by rw [← Nat.add_assoc, HQ.out]; go_num, by omega, rfl⟩, rfl⟩)
            · obtain rfl : k = m + 1 := by omega
              have := HZ2.out
              rw [show b + m + 1 = q by omega] at this
              rw [this] at c
              clear this
              have w0 : IntKind.i64.wrap ((q : Int) - b) = (m : Int) + 1 := by rw [show (q : Int) - b = (m : Int) + 1 by omega]; exact IntWalk.i64_in _ (by omega)
              obtain ⟨u, hu⟩ := text_mk (Cs.sgn (UInt8.ofNat b))
              have hus := (Cs.sgn_len (UInt8.ofNat b)).2
              rw [← size_of hu] at hus
              have HU := Lib.hid hu
              clear hu
              by_cases hshort : m + 1 < 3
              · have hs1 : ¬ (2 < (m : Int) + 1) := by omega
                have hs2 : (b : Int) < q := by omega
                obtain ⟨acc2, hacc2⟩ : ∃ a, acc ++ u = a := ⟨_, rfl⟩
                have hz2 : acc2.size ≤ 2 + 5 * (b + 1) := by rw [← hacc2, ByteArray.size_append]; omega
                have HF2 : Hid (∃ f, acc2.data.toList ++ Cs.txt (Cs.prP f (Cs.memF Z (b + 1))) = hd ++ Cs.ptx Z ∧ 256 - (b + 1) < f) := Lib.hid (by
                  obtain ⟨f, h1, h2⟩ := HF1.out
                  rw [Cs.prP_short (by rw [HM.out]; exact hshort), ← List.append_assoc] at h1
                  refine ⟨f, ?_, by omega⟩
                  rw [← hacc2, ByteArray.data_append, Array.toList_append, HU.out]; exact h1)
                clear hq hshort
                go_wp2_with (go_at_call 41; with_reducible refine (rf_sign b (by omega) u HU.out _).mono ?_; rintro en w5 ⟨rfl, hb⟩; have HB5 : Hid (Rw w5 g cap (bl Z.getLsbD 257) 4 ∧ Below w.heap.size w w5) := Lib.hid ⟨HB.out.1.below hb, HB.out.2.trans (hb.mono HB.out.2.size)⟩; clear hb)
                refine ⟨?_, ?measure⟩
                case measure => first | (simp [intOf]; done) | (simp [intOf]; omega)
                first
                  | exact ⟨b + 1, acc2, by go_num, rfl, by omega, hz2, HF2, HB5⟩
                  | ((repeat apply Exists.intro); exact ⟨⟨b + 1, acc2, by go_num, rfl, by omega, hz2, HF2, HB5⟩, rfl⟩)
              · have hs1 : 2 < (m : Int) + 1 := by omega
                obtain ⟨e, he⟩ : ∃ e, b + m = e := ⟨_, rfl⟩
                have w1 : IntKind.i64.wrap ((q : Int) - 1) = (e : Int) := by rw [show (q : Int) - 1 = (e : Int) by omega]; exact IntWalk.i64_in _ (by omega)
                obtain ⟨d, hd2⟩ := text_mk (Cs.sgn (UInt8.ofNat e))
                have hds := (Cs.sgn_len (UInt8.ofNat e)).2
                rw [← size_of hd2] at hds
                have HD := Lib.hid hd2
                obtain ⟨acc1, hacc1⟩ : ∃ a, acc ++ u = a := ⟨_, rfl⟩
                have hz1 : acc1.size ≤ acc.size + 2 := by rw [← hacc1, ByteArray.size_append]; omega
                obtain ⟨acc2, hacc2⟩ : ∃ a, acc1 ++ ({ data := #[45] } : ByteArray) = a := ⟨_, rfl⟩
                have hz2 : acc2.size ≤ acc.size + 3 := by
                  rw [← hacc2, ByteArray.size_append]
                  have : ({ data := #[45] } : ByteArray).size = 1 := rfl
                  omega
                obtain ⟨acc3, hacc3⟩ : ∃ a, acc2 ++ d = a := ⟨_, rfl⟩
                have hz3 : acc3.size ≤ 2 + 5 * (e + 1) := by rw [← hacc3, ByteArray.size_append]; omega
                have HF2 : Hid (∃ f, acc3.data.toList ++ Cs.txt (Cs.prP f (Cs.memF Z (e + 1))) = hd ++ Cs.ptx Z ∧ 256 - (e + 1) < f) := Lib.hid (by
                  obtain ⟨f, h1, h2⟩ := HF1.out
                  rw [Cs.prP_long (by rw [HM.out]; exact hshort), HM.out, Cs.toNat_lt hbl, he, HR.out.2.2, he] at h1
                  refine ⟨f, ?_, by omega⟩
                  rw [← hacc3, ← hacc2, ← hacc1]
                  simp only [ByteArray.data_append, Array.toList_append, HU.out, HD.out]
                  rw [← h1]; simp)
                have e256 : e < 256 := by omega
                have w2 : IntKind.i64.wrap ((e : Int) + 1) = (e : Int) + 1 := IntWalk.i64_in _ (by omega)
                have hbe : b ≤ e := by omega
                clear hq hshort he hd2
                go_wp2_with (first
                  | (go_at_call 41; with_reducible refine (rf_sign b (by omega) u HU.out _).mono ?_; rintro en w5 ⟨rfl, hb⟩; have HB5 : Hid (Rw w5 g cap (bl Z.getLsbD 257) 4 ∧ Below w.heap.size w w5) := Lib.hid ⟨HB.out.1.below hb, HB.out.2.trans (hb.mono HB.out.2.size)⟩; clear hb)
                  | (go_at_call 41; with_reducible refine (rf_sign e e256 d HD.out _).mono ?_; rintro en w6 ⟨rfl, hb⟩; have HB6 : Hid (Rw w6 g cap (bl Z.getLsbD 257) 4 ∧ Below w.heap.size w w6) := Lib.hid ⟨HB5.out.1.below hb, HB5.out.2.trans (hb.mono HB5.out.2.size)⟩; clear hb))
                refine ⟨?_, ?measure⟩
                case measure => first | (simp [intOf]; done) | (simp [intOf]; omega)
                first
                  | exact ⟨e + 1, acc3, by go_num, rfl, by omega, hz3, HF2, HB6⟩
                  | ((repeat apply Exists.intro); exact ⟨⟨e + 1, acc3, by go_num, rfl, by omega, hz3, HF2, HB6⟩, rfl⟩)
      · obtain rfl : b = 256 := by omega
        have HE : Hid (acc ++ ({ data := #[93] } : ByteArray) = t) := Lib.hid (text_ext (by
          obtain ⟨f, h1, h2⟩ := HF.out
          rw [Cs.memF_end] at h1
          have e0 : Cs.prP f [] = [] := by cases f <;> rfl
          rw [e0] at h1
          rw [HH.out.2, ByteArray.data_append, Array.toList_append, ← h1]
          simp [Cs.txt]))
        go_wp2
        go_ret
        exact ⟨by rw [HE.out]; rfl, HB.out.2⟩
set_option maxRecDepth 20000 in
set_option maxHeartbeats 2000000 in
theorem rf_print_yes (X : BitVec 256) (hneg : Cs.neg X = true) (t : ByteArray) (ht : t.data.toList = Cs.prt X) (w : World) :
    Calls Try.prog 27 #[Cs.sv X] w fun e w' => e = .returned (.string t) ∧ Below w.heap.size w w' := by
  obtain ⟨u0, hu0⟩ := text_mk (Cs.memT X 256)
  have HU0 := Lib.hid hu0
  obtain ⟨n, hn⟩ : ∃ n, u0.size = n := ⟨_, rfl⟩
  have hcn : Cs.cnt X.getLsbD 256 = n := by rw [← hn, size_of hu0, Cs.memT_len]
  obtain ⟨Z, hZ⟩ : ∃ Z, (~~~X) = Z := ⟨_, rfl⟩
  obtain ⟨hd, hhd⟩ : ∃ hd : List UInt8, [91, 94] = hd := ⟨_, rfl⟩
  have HH : Hid ((({ data := #[91, 94] } : ByteArray).data.toList ++ Cs.txt (Cs.prP 257 (Cs.memT Z 256)) = hd ++ Cs.ptx Z) ∧ t.data.toList = hd ++ Cs.ptx Z ++ [93]) := Lib.hid ⟨by rw [← hhd]; rfl, by
    rw [ht]; unfold Cs.prt Cs.told; rw [hneg, ← hhd, ← hZ]; rfl⟩
  have hcase : Hid (n = 0 ∨ ¬ n = 0 ∧ 128 < n ∧ n < 256) := Lib.hid (by
    unfold Cs.neg at hneg; rw [hcn] at hneg
    simp at hneg; omega)
  have hn256 : n ≤ 256 := by rw [← hcn]; exact Cs.cnt_le _ _
  have HX := Lib.hid hZ
  have HNN := Lib.hid hn
  clear hu0 hcn hneg ht hZ hhd
  have hc : Hid (SB (w.alloc (.cells #[.int .u64 (Cs.wd X 0), .int .u64 (Cs.wd X 1), .int .u64 (Cs.wd X 2), .int .u64 (Cs.wd X 3)] 38)) w.heap.size X ∧ Below w.heap.size w (w.alloc (.cells #[.int .u64 (Cs.wd X 0), .int .u64 (Cs.wd X 1), .int .u64 (Cs.wd X 2), .int .u64 (Cs.wd X 3)] 38))) := Lib.hid ⟨SB.new w X, (Below.refl _ _).alloc (Nat.le_refl _) _⟩
  unfold Cs.sv
  rcases hcase.out with rfl | ⟨h1, h2, h3⟩
  · go_enter Try.func27, Try.ntmps27
    go_upto_region 1 with fail
    revert hc
    generalize w.alloc (.cells #[.int .u64 (Cs.wd X 0), .int .u64 (Cs.wd X 1), .int .u64 (Cs.wd X 2), .int .u64 (Cs.wd X 3)] 38) = W
    intro hc
    have x0 := hc.out.1.at (i := 0) (by decide)
    have x1 := hc.out.1.at (i := 1) (by decide)
    have x2 := hc.out.1.at (i := 2) (by decide)
    have x3 := hc.out.1.at (i := 3) (by decide)
    go_upto_region 4 with (first
      | (go_at_call 25; rw [sv_def X]; refine (rf_bytes X u0 HU0.out _).mono ?_; rintro e W1 ⟨rfl, hb1⟩; have HB1 : Hid (SB W1 w.heap.size X ∧ Below w.heap.size w W1) := Lib.hid ⟨hc.out.1.below hb1, hc.out.2.trans (hb1.mono hc.out.2.size)⟩; clear hb1 x0 x1 x2 x3; have x0 := HB1.out.1.at (i := 0) (by decide); have x1 := HB1.out.1.at (i := 1) (by decide); have x2 := HB1.out.1.at (i := 2) (by decide); have x3 := HB1.out.1.at (i := 3) (by decide))
      | (go_at_call 36; rw [sv_def X]; refine (rf_not X _).mono ?_; rintro e W2 ⟨rfl, hb2⟩; rw [HX.out]; unfold Cs.sv; have HB2 : Hid (SB W2 w.heap.size X ∧ Below w.heap.size w W2) := Lib.hid ⟨HB1.out.1.below hb2, HB1.out.2.trans (hb2.mono HB1.out.2.size)⟩; clear hb2 x0 x1 x2 x3; have x0 := HB2.out.1.at (i := 0) (by decide); have xf0 := HB2.out.1.free 0; have x1 := HB2.out.1.at (i := 1) (by decide); have xf1 := HB2.out.1.free 1; have x2 := HB2.out.1.at (i := 2) (by decide); have xf2 := HB2.out.1.free 2; have x3 := HB2.out.1.at (i := 3) (by decide); have xf3 := HB2.out.1.free 3))
    have HW3 := Lib.hid (HB2.out.1.res HB2.out.2 (Nat.le_refl _) Z)
    clear x0 x1 x2 x3 xf0 xf1 xf2 xf3
    revert HW3
    generalize (((W2.setCell ⟨w.heap.size, 0, none⟩ (.int .u64 (Cs.wd Z 0))).setCell ⟨w.heap.size, 1, none⟩ (.int .u64 (Cs.wd Z 1))).setCell ⟨w.heap.size, 2, none⟩ (.int .u64 (Cs.wd Z 2))).setCell ⟨w.heap.size, 3, none⟩ (.int .u64 (Cs.wd Z 3)) = W3
    intro HW3
    have z0 := HW3.out.1.at (i := 0) (by decide)
    have z1 := HW3.out.1.at (i := 1) (by decide)
    have z2 := HW3.out.1.at (i := 2) (by decide)
    have z3 := HW3.out.1.at (i := 3) (by decide)
    go_wp2_with (first
      | (go_at_call 40; rw [sv_def Z]; refine (rf_flags Z _).mono ?_; rintro e W4 ⟨g0, cap0, rfl, h1, h2, h3⟩; have HG : Hid (Rw W4 g0 cap0 (bl Z.getLsbD 256) 4 ∧ Below w.heap.size w W4 ∧ w.heap.size ≤ g0) := Lib.hid ⟨h2, HW3.out.2.trans (h3.mono HW3.out.2.size), Nat.le_trans HW3.out.2.size h1⟩; clear h1 h2 h3)
      | (at_builtin; refine wpList_append_rw _ rfl (.tmp 24) (.tmp 25) 51 51 rfl 4 (.bool false) 1 Try.underlying51 infob rfl g0 256 cap0 (bl Z.getLsbD 256) rfl (bl_length _ _) (HG.out.1.chg ((Chg.refl [] _).alloc _) (by simp)) _ rfl 1 _ (Src.ofSlice _ Try.underlying51 ⟨_, 0, none⟩ 1 1 [.bool false] rfl (one_new _ _ _) (one_b _)) (by omega) (by omega) ?_; intro g cap W5 r1 r2 r3; have HB : Hid (Rw W5 g cap (bl Z.getLsbD 257) 4 ∧ Below w.heap.size w W5) := Lib.hid (by
          have hsz := HG.out.2.1.size
          have hg0 := HG.out.2.2
          refine ⟨?_, r3.onto (HG.out.2.1.alloc hsz _) (by simp; omega) (by simp; omega)⟩
          rw [bl_snoc, show Z.getLsbD 256 = false from BitVec.getLsbD_of_ge _ _ (by omega)]; exact r1); clear r1 r2 r3))
    go_loopw [3, 6] (fun v i wr => ∃ (b : Nat) (acc : ByteArray), i = .int .i64 b ∧ v = .string acc ∧ b ≤ 256 ∧ acc.size ≤ 2 + 5 * b ∧ Hid (∃ f, acc.data.toList ++ Cs.txt (Cs.prP f (Cs.memF Z b)) = hd ++ Cs.ptx Z ∧ 256 - b < f) ∧ Hid (Rw wr g cap (bl Z.getLsbD 257) 4 ∧ Below w.heap.size w wr)) (fun _ i _ => 256 - (intOf i).toNat)
    case atStart => exact ⟨0, _, rfl, rfl, by omega, by decide, Lib.hid ⟨257, by rw [Cs.memF_zero]; exact HH.out.1, by omega⟩, HB⟩
    case round =>
      clear HB
      obtain ⟨b, acc, rfl, rfl, hb, hacc, HF, HB⟩ := hrel
      have j0 : (0 : Int) ≤ (b : Int) := by omega
      by_cases hbl : b < 256
      · cases hz : Z.getLsbD b with
        | false =>
          have HF2 : Hid (∃ f, acc.data.toList ++ Cs.txt (Cs.prP f (Cs.memF Z (b + 1))) = hd ++ Cs.ptx Z ∧ 256 - (b + 1) < f) := Lib.hid (by
            obtain ⟨f, h1, h2⟩ := HF.out
            rw [Cs.memF_step Z b hbl, hz] at h1
            exact ⟨f, h1, by omega⟩)
          have c := HB.out.1.cell (bl_at Z.getLsbD (n := 257) (i := b) (by omega))
          rw [hz] at c
          have w0 : IntKind.i64.wrap ((b : Int) - b) = 0 := by rw [Int.sub_self]; rfl
          clear hz
          go_wp2
          go_loopw [7] (fun i wr' => i = .int .i64 b ∧ wr' = wr) (fun i _ => 0)
          case atStart => exact ⟨rfl, rfl⟩
          case round =>
            obtain ⟨rfl, rfl⟩ := hrel
            go_wp2
            refine ⟨?_, ?measure⟩
            case measure => first | (simp [intOf]; done) | (simp [intOf]; omega)
            first
              | exact ⟨b + 1, acc, by go_num, rfl, by omega, by omega, HF2, HB⟩
              | ((repeat apply Exists.intro); exact ⟨⟨b + 1, acc, by go_num, rfl, by omega, by omega, HF2, HB⟩, rfl⟩)
        | true =>
          obtain ⟨m, hm⟩ : ∃ m, Cs.run1 (UInt8.ofNat b) (Cs.memF Z (b + 1)) = m := ⟨_, rfl⟩
          have HR := Lib.hid (runF_math Z (256 - b - 1) b (by omega))
          rw [hm] at HR
          have hbm : b + m < 256 := (HR.out.1 m (Nat.le_refl _)).1
          have HZ : Hid (∀ i, i ≤ m → Z.getLsbD (b + i) = true) := Lib.hid (fun i hi => by
            rcases (HR.out.1 i hi).2 with e | e
            · subst e; exact hz
            · exact e)
          have HZ2 : Hid (Z.getLsbD (b + m + 1) = false) := Lib.hid (by
            rcases Nat.lt_or_ge (b + m + 1) 256 with h | h
            · exact HR.out.2.1 h
            · exact BitVec.getLsbD_of_ge _ _ h)
          have HF1 : Hid (∃ f, acc.data.toList ++ Cs.txt (Cs.prP (f + 1) (UInt8.ofNat b :: Cs.memF Z (b + 1))) = hd ++ Cs.ptx Z ∧ 256 - b < f + 1) := Lib.hid (by
            obtain ⟨f, h1, h2⟩ := HF.out
            obtain ⟨f, rfl⟩ : ∃ g, f = g + 1 := ⟨f - 1, by omega⟩
            rw [Cs.memF_step Z b hbl, hz] at h1
            exact ⟨f, h1, h2⟩)
          have HM := Lib.hid hm
          clear hz HF hm
          go_wp2
          go_loopw [7] (fun i wr' => ∃ k : Nat, i = .int .i64 ((b + k : Nat) : Int) ∧ k ≤ m + 1 ∧ wr' = wr) (fun i _ => 300 - (intOf i).toNat)
          case atStart => exact ⟨0, rfl, by omega, rfl⟩
          case round =>
            obtain ⟨k, rfl, hk, rfl⟩ := hrel
            obtain ⟨q, hq⟩ : ∃ q, b + k = q := ⟨_, rfl⟩
            rw [hq]
            have HQ := Lib.hid hq
            have q0 : (0 : Int) ≤ (q : Int) := by omega
            have hq257 : q < 257 := by omega
            have c := HB.out.1.cell (bl_at Z.getLsbD (n := 257) (i := q) hq257)
            by_cases hkm : k ≤ m
            · have := HZ.out k hkm
              rw [hq] at this
              rw [this] at c
              clear this hq
              go_wp2
              refine ⟨?_, ?measure⟩
              case measure => simp [intOf]; omega
              first
                | exact ⟨k + 1, by rw [← Nat.add_assoc, HQ.out]; go_num, by omega, rfl⟩
                | exact ⟨k + 1, by rw [← Nat.add_assoc, HQ.out]; go_num, by omega, trivial⟩
                | ((repeat apply Exists.intro); exact ⟨⟨k + 1, by rw [← Nat.add_assoc, HQ.out]; go_num, by omega, rfl⟩, rfl⟩)
            · obtain rfl : k = m + 1 := by omega
              have := HZ2.out
              rw [show b + m + 1 = q by omega] at this
              rw [this] at c
              clear this
              have w0 : IntKind.i64.wrap ((q : Int) - b) = (m : Int) + 1 := by rw [show (q : Int) - b = (m : Int) + 1 by omega]; exact IntWalk.i64_in _ (by omega)
              obtain ⟨u, hu⟩ := text_mk (Cs.sgn (UInt8.ofNat b))
              have hus := (Cs.sgn_len (UInt8.ofNat b)).2
              rw [← size_of hu] at hus
              have HU := Lib.hid hu
              clear hu
              by_cases hshort : m + 1 < 3
              · have hs1 : ¬ (2 < (m : Int) + 1) := by omega
                have hs2 : (b : Int) < q := by omega
                obtain ⟨acc2, hacc2⟩ : ∃ a, acc ++ u = a := ⟨_, rfl⟩
                have hz2 : acc2.size ≤ 2 + 5 * (b + 1) := by rw [← hacc2, ByteArray.size_append]; omega
                have HF2 : Hid (∃ f, acc2.data.toList ++ Cs.txt (Cs.prP f (Cs.memF Z (b + 1))) = hd ++ Cs.ptx Z ∧ 256 - (b + 1) < f) := Lib.hid (by
                  obtain ⟨f, h1, h2⟩ := HF1.out
                  rw [Cs.prP_short (by rw [HM.out]; exact hshort), ← List.append_assoc] at h1
                  refine ⟨f, ?_, by omega⟩
                  rw [← hacc2, ByteArray.data_append, Array.toList_append, HU.out]; exact h1)
                clear hq hshort
                go_wp2_with (go_at_call 41; with_reducible refine (rf_sign b (by omega) u HU.out _).mono ?_; rintro en w5 ⟨rfl, hb⟩; have HB5 : Hid (Rw w5 g cap (bl Z.getLsbD 257) 4 ∧ Below w.heap.size w w5) := Lib.hid ⟨HB.out.1.below hb, HB.out.2.trans (hb.mono HB.out.2.size)⟩; clear hb)
                refine ⟨?_, ?measure⟩
                case measure => first | (simp [intOf]; done) | (simp [intOf]; omega)
                first
                  | exact ⟨b + 1, acc2, by go_num, rfl, by omega, hz2, HF2, HB5⟩
                  | ((repeat apply Exists.intro); exact ⟨⟨b + 1, acc2, by go_num, rfl, by omega, hz2, HF2, HB5⟩, rfl⟩)
              · have hs1 : 2 < (m : Int) + 1 := by omega
                obtain ⟨e, he⟩ : ∃ e, b + m = e := ⟨_, rfl⟩
                have w1 : IntKind.i64.wrap ((q : Int) - 1) = (e : Int) := by rw [show (q : Int) - 1 = (e : Int) by omega]; exact IntWalk.i64_in _ (by omega)
                obtain ⟨d, hd2⟩ := text_mk (Cs.sgn (UInt8.ofNat e))
                have hds := (Cs.sgn_len (UInt8.ofNat e)).2
                rw [← size_of hd2] at hds
                have HD := Lib.hid hd2
                obtain ⟨acc1, hacc1⟩ : ∃ a, acc ++ u = a := ⟨_, rfl⟩
                have hz1 : acc1.size ≤ acc.size + 2 := by rw [← hacc1, ByteArray.size_append]; omega
                obtain ⟨acc2, hacc2⟩ : ∃ a, acc1 ++ ({ data := #[45] } : ByteArray) = a := ⟨_, rfl⟩
                have hz2 : acc2.size ≤ acc.size + 3 := by
                  rw [← hacc2, ByteArray.size_append]
                  have : ({ data := #[45] } : ByteArray).size = 1 := rfl
                  omega
                obtain ⟨acc3, hacc3⟩ : ∃ a, acc2 ++ d = a := ⟨_, rfl⟩
                have hz3 : acc3.size ≤ 2 + 5 * (e + 1) := by rw [← hacc3, ByteArray.size_append]; omega
                have HF2 : Hid (∃ f, acc3.data.toList ++ Cs.txt (Cs.prP f (Cs.memF Z (e + 1))) = hd ++ Cs.ptx Z ∧ 256 - (e + 1) < f) := Lib.hid (by
                  obtain ⟨f, h1, h2⟩ := HF1.out
                  rw [Cs.prP_long (by rw [HM.out]; exact hshort), HM.out, Cs.toNat_lt hbl, he, HR.out.2.2, he] at h1
                  refine ⟨f, ?_, by omega⟩
                  rw [← hacc3, ← hacc2, ← hacc1]
                  simp only [ByteArray.data_append, Array.toList_append, HU.out, HD.out]
                  rw [← h1]; simp)
                have e256 : e < 256 := by omega
                have w2 : IntKind.i64.wrap ((e : Int) + 1) = (e : Int) + 1 := IntWalk.i64_in _ (by omega)
                have hbe : b ≤ e := by omega
                clear hq hshort he hd2
                go_wp2_with (first
                  | (go_at_call 41; with_reducible refine (rf_sign b (by omega) u HU.out _).mono ?_; rintro en w5 ⟨rfl, hb⟩; have HB5 : Hid (Rw w5 g cap (bl Z.getLsbD 257) 4 ∧ Below w.heap.size w w5) := Lib.hid ⟨HB.out.1.below hb, HB.out.2.trans (hb.mono HB.out.2.size)⟩; clear hb)
                  | (go_at_call 41; with_reducible refine (rf_sign e e256 d HD.out _).mono ?_; rintro en w6 ⟨rfl, hb⟩; have HB6 : Hid (Rw w6 g cap (bl Z.getLsbD 257) 4 ∧ Below w.heap.size w w6) := Lib.hid ⟨HB5.out.1.below hb, HB5.out.2.trans (hb.mono HB5.out.2.size)⟩; clear hb))
                refine ⟨?_, ?measure⟩
                case measure => first | (simp [intOf]; done) | (simp [intOf]; omega)
                first
                  | exact ⟨e + 1, acc3, by go_num, rfl, by omega, hz3, HF2, HB6⟩
                  | ((repeat apply Exists.intro); exact ⟨⟨e + 1, acc3, by go_num, rfl, by omega, hz3, HF2, HB6⟩, rfl⟩)
      · obtain rfl : b = 256 := by omega
        have HE : Hid (acc ++ ({ data := #[93] } : ByteArray) = t) := Lib.hid (text_ext (by
          obtain ⟨f, h1, h2⟩ := HF.out
          rw [Cs.memF_end] at h1
          have e0 : Cs.prP f [] = [] := by cases f <;> rfl
          rw [e0] at h1
          rw [HH.out.2, ByteArray.data_append, Array.toList_append, ← h1]
          simp [Cs.txt]))
        go_wp2
        go_ret
        exact ⟨by rw [HE.out]; rfl, HB.out.2⟩

  · have g1 : ((n : Int) == 0) = false := by rw [beq_eq_false_iff_ne]; omega
    go_enter Try.func27, Try.ntmps27
    go_upto_region 1 with fail
    revert hc
    generalize w.alloc (.cells #[.int .u64 (Cs.wd X 0), .int .u64 (Cs.wd X 1), .int .u64 (Cs.wd X 2), .int .u64 (Cs.wd X 3)] 38) = W
    intro hc
    have x0 := hc.out.1.at (i := 0) (by decide)
    have x1 := hc.out.1.at (i := 1) (by decide)
    have x2 := hc.out.1.at (i := 2) (by decide)
    have x3 := hc.out.1.at (i := 3) (by decide)
    go_upto_region 4 with (first
      | (go_at_call 25; rw [sv_def X]; refine (rf_bytes X u0 HU0.out _).mono ?_; rintro e W1 ⟨rfl, hb1⟩; have HB1 : Hid (SB W1 w.heap.size X ∧ Below w.heap.size w W1) := Lib.hid ⟨hc.out.1.below hb1, hc.out.2.trans (hb1.mono hc.out.2.size)⟩; clear hb1 x0 x1 x2 x3; have x0 := HB1.out.1.at (i := 0) (by decide); have x1 := HB1.out.1.at (i := 1) (by decide); have x2 := HB1.out.1.at (i := 2) (by decide); have x3 := HB1.out.1.at (i := 3) (by decide))
      | (go_at_call 36; rw [sv_def X]; refine (rf_not X _).mono ?_; rintro e W2 ⟨rfl, hb2⟩; rw [HX.out]; unfold Cs.sv; have HB2 : Hid (SB W2 w.heap.size X ∧ Below w.heap.size w W2) := Lib.hid ⟨HB1.out.1.below hb2, HB1.out.2.trans (hb2.mono HB1.out.2.size)⟩; clear hb2 x0 x1 x2 x3; have x0 := HB2.out.1.at (i := 0) (by decide); have xf0 := HB2.out.1.free 0; have x1 := HB2.out.1.at (i := 1) (by decide); have xf1 := HB2.out.1.free 1; have x2 := HB2.out.1.at (i := 2) (by decide); have xf2 := HB2.out.1.free 2; have x3 := HB2.out.1.at (i := 3) (by decide); have xf3 := HB2.out.1.free 3))
    have HW3 := Lib.hid (HB2.out.1.res HB2.out.2 (Nat.le_refl _) Z)
    clear x0 x1 x2 x3 xf0 xf1 xf2 xf3
    revert HW3
    generalize (((W2.setCell ⟨w.heap.size, 0, none⟩ (.int .u64 (Cs.wd Z 0))).setCell ⟨w.heap.size, 1, none⟩ (.int .u64 (Cs.wd Z 1))).setCell ⟨w.heap.size, 2, none⟩ (.int .u64 (Cs.wd Z 2))).setCell ⟨w.heap.size, 3, none⟩ (.int .u64 (Cs.wd Z 3)) = W3
    intro HW3
    have z0 := HW3.out.1.at (i := 0) (by decide)
    have z1 := HW3.out.1.at (i := 1) (by decide)
    have z2 := HW3.out.1.at (i := 2) (by decide)
    have z3 := HW3.out.1.at (i := 3) (by decide)
    go_wp2_with (first
      | (go_at_call 40; rw [sv_def Z]; refine (rf_flags Z _).mono ?_; rintro e W4 ⟨g0, cap0, rfl, h1, h2, h3⟩; have HG : Hid (Rw W4 g0 cap0 (bl Z.getLsbD 256) 4 ∧ Below w.heap.size w W4 ∧ w.heap.size ≤ g0) := Lib.hid ⟨h2, HW3.out.2.trans (h3.mono HW3.out.2.size), Nat.le_trans HW3.out.2.size h1⟩; clear h1 h2 h3)
      | (at_builtin; refine wpList_append_rw _ rfl (.tmp 24) (.tmp 25) 51 51 rfl 4 (.bool false) 1 Try.underlying51 infob rfl g0 256 cap0 (bl Z.getLsbD 256) rfl (bl_length _ _) (HG.out.1.chg ((Chg.refl [] _).alloc _) (by simp)) _ rfl 1 _ (Src.ofSlice _ Try.underlying51 ⟨_, 0, none⟩ 1 1 [.bool false] rfl (one_new _ _ _) (one_b _)) (by omega) (by omega) ?_; intro g cap W5 r1 r2 r3; have HB : Hid (Rw W5 g cap (bl Z.getLsbD 257) 4 ∧ Below w.heap.size w W5) := Lib.hid (by
          have hsz := HG.out.2.1.size
          have hg0 := HG.out.2.2
          refine ⟨?_, r3.onto (HG.out.2.1.alloc hsz _) (by simp; omega) (by simp; omega)⟩
          rw [bl_snoc, show Z.getLsbD 256 = false from BitVec.getLsbD_of_ge _ _ (by omega)]; exact r1); clear r1 r2 r3))
    go_loopw [3, 6] (fun v i wr => ∃ (b : Nat) (acc : ByteArray), i = .int .i64 b ∧ v = .string acc ∧ b ≤ 256 ∧ acc.size ≤ 2 + 5 * b ∧ Hid (∃ f, acc.data.toList ++ Cs.txt (Cs.prP f (Cs.memF Z b)) = hd ++ Cs.ptx Z ∧ 256 - b < f) ∧ Hid (Rw wr g cap (bl Z.getLsbD 257) 4 ∧ Below w.heap.size w wr)) (fun _ i _ => 256 - (intOf i).toNat)
    case atStart => exact ⟨0, _, rfl, rfl, by omega, by decide, Lib.hid ⟨257, by rw [Cs.memF_zero]; exact HH.out.1, by omega⟩, HB⟩
    case round =>
      clear HB
      obtain ⟨b, acc, rfl, rfl, hb, hacc, HF, HB⟩ := hrel
      have j0 : (0 : Int) ≤ (b : Int) := by omega
      by_cases hbl : b < 256
      · cases hz : Z.getLsbD b with
        | false =>
          have HF2 : Hid (∃ f, acc.data.toList ++ Cs.txt (Cs.prP f (Cs.memF Z (b + 1))) = hd ++ Cs.ptx Z ∧ 256 - (b + 1) < f) := Lib.hid (by
            obtain ⟨f, h1, h2⟩ := HF.out
            rw [Cs.memF_step Z b hbl, hz] at h1
            exact ⟨f, h1, by omega⟩)
          have c := HB.out.1.cell (bl_at Z.getLsbD (n := 257) (i := b) (by omega))
          rw [hz] at c
          have w0 : IntKind.i64.wrap ((b : Int) - b) = 0 := by rw [Int.sub_self]; rfl
          clear hz
          go_wp2
          go_loopw [7] (fun i wr' => i = .int .i64 b ∧ wr' = wr) (fun i _ => 0)
          case atStart => exact ⟨rfl, rfl⟩
          case round =>
            obtain ⟨rfl, rfl⟩ := hrel
            go_wp2
            refine ⟨?_, ?measure⟩
            case measure => first | (simp [intOf]; done) | (simp [intOf]; omega)
            first
              | exact ⟨b + 1, acc, by go_num, rfl, by omega, by omega, HF2, HB⟩
              | ((repeat apply Exists.intro); exact ⟨⟨b + 1, acc, by go_num, rfl, by omega, by omega, HF2, HB⟩, rfl⟩)
        | true =>
          obtain ⟨m, hm⟩ : ∃ m, Cs.run1 (UInt8.ofNat b) (Cs.memF Z (b + 1)) = m := ⟨_, rfl⟩
          have HR := Lib.hid (runF_math Z (256 - b - 1) b (by omega))
          rw [hm] at HR
          have hbm : b + m < 256 := (HR.out.1 m (Nat.le_refl _)).1
          have HZ : Hid (∀ i, i ≤ m → Z.getLsbD (b + i) = true) := Lib.hid (fun i hi => by
            rcases (HR.out.1 i hi).2 with e | e
            · subst e; exact hz
            · exact e)
          have HZ2 : Hid (Z.getLsbD (b + m + 1) = false) := Lib.hid (by
            rcases Nat.lt_or_ge (b + m + 1) 256 with h | h
            · exact HR.out.2.1 h
            · exact BitVec.getLsbD_of_ge _ _ h)
          have HF1 : Hid (∃ f, acc.data.toList ++ Cs.txt (Cs.prP (f + 1) (UInt8.ofNat b :: Cs.memF Z (b + 1))) = hd ++ Cs.ptx Z ∧ 256 - b < f + 1) := Lib.hid (by
            obtain ⟨f, h1, h2⟩ := HF.out
            obtain ⟨f, rfl⟩ : ∃ g, f = g + 1 := ⟨f - 1, by omega⟩
            rw [Cs.memF_step Z b hbl, hz] at h1
            exact ⟨f, h1, h2⟩)
          have HM := Lib.hid hm
          clear hz HF hm
          go_wp2
          go_loopw [7] (fun i wr' => ∃ k : Nat, i = .int .i64 ((b + k : Nat) : Int) ∧ k ≤ m + 1 ∧ wr' = wr) (fun i _ => 300 - (intOf i).toNat)
          case atStart => exact ⟨0, rfl, by omega, rfl⟩
          case round =>
            obtain ⟨k, rfl, hk, rfl⟩ := hrel
            obtain ⟨q, hq⟩ : ∃ q, b + k = q := ⟨_, rfl⟩
            rw [hq]
            have HQ := Lib.hid hq
            have q0 : (0 : Int) ≤ (q : Int) := by omega
            have hq257 : q < 257 := by omega
            have c := HB.out.1.cell (bl_at Z.getLsbD (n := 257) (i := q) hq257)
            by_cases hkm : k ≤ m
            · have := HZ.out k hkm
              rw [hq] at this
              rw [this] at c
              clear this hq
              go_wp2
              refine ⟨?_, ?measure⟩
              case measure => simp [intOf]; omega
              first
                | exact ⟨k + 1, by rw [← Nat.add_assoc, HQ.out]; go_num, by omega, rfl⟩
                | exact ⟨k + 1, by rw [← Nat.add_assoc, HQ.out]; go_num, by omega, trivial⟩
                | ((repeat apply Exists.intro); exact ⟨⟨k + 1, by rw [← Nat.add_assoc, HQ.out]; go_num, by omega, rfl⟩, rfl⟩)
            · obtain rfl : k = m + 1 := by omega
              have := HZ2.out
              rw [show b + m + 1 = q by omega] at this
              rw [this] at c
              clear this
              have w0 : IntKind.i64.wrap ((q : Int) - b) = (m : Int) + 1 := by rw [show (q : Int) - b = (m : Int) + 1 by omega]; exact IntWalk.i64_in _ (by omega)
              obtain ⟨u, hu⟩ := text_mk (Cs.sgn (UInt8.ofNat b))
              have hus := (Cs.sgn_len (UInt8.ofNat b)).2
              rw [← size_of hu] at hus
              have HU := Lib.hid hu
              clear hu
              by_cases hshort : m + 1 < 3
              · have hs1 : ¬ (2 < (m : Int) + 1) := by omega
                have hs2 : (b : Int) < q := by omega
                obtain ⟨acc2, hacc2⟩ : ∃ a, acc ++ u = a := ⟨_, rfl⟩
                have hz2 : acc2.size ≤ 2 + 5 * (b + 1) := by rw [← hacc2, ByteArray.size_append]; omega
                have HF2 : Hid (∃ f, acc2.data.toList ++ Cs.txt (Cs.prP f (Cs.memF Z (b + 1))) = hd ++ Cs.ptx Z ∧ 256 - (b + 1) < f) := Lib.hid (by
                  obtain ⟨f, h1, h2⟩ := HF1.out
                  rw [Cs.prP_short (by rw [HM.out]; exact hshort), ← List.append_assoc] at h1
                  refine ⟨f, ?_, by omega⟩
                  rw [← hacc2, ByteArray.data_append, Array.toList_append, HU.out]; exact h1)
                clear hq hshort
                go_wp2_with (go_at_call 41; with_reducible refine (rf_sign b (by omega) u HU.out _).mono ?_; rintro en w5 ⟨rfl, hb⟩; have HB5 : Hid (Rw w5 g cap (bl Z.getLsbD 257) 4 ∧ Below w.heap.size w w5) := Lib.hid ⟨HB.out.1.below hb, HB.out.2.trans (hb.mono HB.out.2.size)⟩; clear hb)
                refine ⟨?_, ?measure⟩
                case measure => first | (simp [intOf]; done) | (simp [intOf]; omega)
                first
                  | exact ⟨b + 1, acc2, by go_num, rfl, by omega, hz2, HF2, HB5⟩
                  | ((repeat apply Exists.intro); exact ⟨⟨b + 1, acc2, by go_num, rfl, by omega, hz2, HF2, HB5⟩, rfl⟩)
              · have hs1 : 2 < (m : Int) + 1 := by omega
                obtain ⟨e, he⟩ : ∃ e, b + m = e := ⟨_, rfl⟩
                have w1 : IntKind.i64.wrap ((q : Int) - 1) = (e : Int) := by rw [show (q : Int) - 1 = (e : Int) by omega]; exact IntWalk.i64_in _ (by omega)
                obtain ⟨d, hd2⟩ := text_mk (Cs.sgn (UInt8.ofNat e))
                have hds := (Cs.sgn_len (UInt8.ofNat e)).2
                rw [← size_of hd2] at hds
                have HD := Lib.hid hd2
                obtain ⟨acc1, hacc1⟩ : ∃ a, acc ++ u = a := ⟨_, rfl⟩
                have hz1 : acc1.size ≤ acc.size + 2 := by rw [← hacc1, ByteArray.size_append]; omega
                obtain ⟨acc2, hacc2⟩ : ∃ a, acc1 ++ ({ data := #[45] } : ByteArray) = a := ⟨_, rfl⟩
                have hz2 : acc2.size ≤ acc.size + 3 := by
                  rw [← hacc2, ByteArray.size_append]
                  have : ({ data := #[45] } : ByteArray).size = 1 := rfl
                  omega
                obtain ⟨acc3, hacc3⟩ : ∃ a, acc2 ++ d = a := ⟨_, rfl⟩
                have hz3 : acc3.size ≤ 2 + 5 * (e + 1) := by rw [← hacc3, ByteArray.size_append]; omega
                have HF2 : Hid (∃ f, acc3.data.toList ++ Cs.txt (Cs.prP f (Cs.memF Z (e + 1))) = hd ++ Cs.ptx Z ∧ 256 - (e + 1) < f) := Lib.hid (by
                  obtain ⟨f, h1, h2⟩ := HF1.out
                  rw [Cs.prP_long (by rw [HM.out]; exact hshort), HM.out, Cs.toNat_lt hbl, he, HR.out.2.2, he] at h1
                  refine ⟨f, ?_, by omega⟩
                  rw [← hacc3, ← hacc2, ← hacc1]
                  simp only [ByteArray.data_append, Array.toList_append, HU.out, HD.out]
                  rw [← h1]; simp)
                have e256 : e < 256 := by omega
                have w2 : IntKind.i64.wrap ((e : Int) + 1) = (e : Int) + 1 := IntWalk.i64_in _ (by omega)
                have hbe : b ≤ e := by omega
                clear hq hshort he hd2
                go_wp2_with (first
                  | (go_at_call 41; with_reducible refine (rf_sign b (by omega) u HU.out _).mono ?_; rintro en w5 ⟨rfl, hb⟩; have HB5 : Hid (Rw w5 g cap (bl Z.getLsbD 257) 4 ∧ Below w.heap.size w w5) := Lib.hid ⟨HB.out.1.below hb, HB.out.2.trans (hb.mono HB.out.2.size)⟩; clear hb)
                  | (go_at_call 41; with_reducible refine (rf_sign e e256 d HD.out _).mono ?_; rintro en w6 ⟨rfl, hb⟩; have HB6 : Hid (Rw w6 g cap (bl Z.getLsbD 257) 4 ∧ Below w.heap.size w w6) := Lib.hid ⟨HB5.out.1.below hb, HB5.out.2.trans (hb.mono HB5.out.2.size)⟩; clear hb))
                refine ⟨?_, ?measure⟩
                case measure => first | (simp [intOf]; done) | (simp [intOf]; omega)
                first
                  | exact ⟨e + 1, acc3, by go_num, rfl, by omega, hz3, HF2, HB6⟩
                  | ((repeat apply Exists.intro); exact ⟨⟨e + 1, acc3, by go_num, rfl, by omega, hz3, HF2, HB6⟩, rfl⟩)
      · obtain rfl : b = 256 := by omega
        have HE : Hid (acc ++ ({ data := #[93] } : ByteArray) = t) := Lib.hid (text_ext (by
          obtain ⟨f, h1, h2⟩ := HF.out
          rw [Cs.memF_end] at h1
          have e0 : Cs.prP f [] = [] := by cases f <;> rfl
          rw [e0] at h1
          rw [HH.out.2, ByteArray.data_append, Array.toList_append, ← h1]
          simp [Cs.txt]))
        go_wp2
        go_ret
        exact ⟨by rw [HE.out]; rfl, HB.out.2⟩
theorem rf_print (X : BitVec 256) (t : ByteArray) (ht : t.data.toList = Cs.prt X) (w : World) :
    Calls Try.prog 27 #[Cs.sv X] w fun e w' => e = .returned (.string t) ∧ Below w.heap.size w w' := by
  cases h : Cs.neg X
  · exact rf_print_no X h t ht w
  · exact rf_print_yes X h t ht w
end Go.Proofs.Ytkihlnomchhiiaa
