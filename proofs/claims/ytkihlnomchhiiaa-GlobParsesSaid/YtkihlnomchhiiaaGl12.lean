/- Contracts of patterns: a pattern's text, by the document. -/
import Derived.Test.YtkihlnomchhiiaaGl11
import Derived.Test.YtkihlnomchhiiaaGl10
namespace Go.Proofs.Ytkihlnomchhiiaa
open Go.ChangeShapes Go.WideShapes Go.ChangeAt Go.RowKit
set_option linter.unusedSimpArgs false
set_option linter.unusedVariables false

theorem cnt_full (f : Nat → Bool) : ∀ n, Cs.cnt f n = n → ∀ i < n, f i = true
  | 0, _, i, hi => by omega
  | n + 1, h, i, hi => by
    have e := Cs.cnt_add f n 1
    have l0 := Cs.cnt_le f n
    have e1 : Cs.cnt (fun j => f (n + j)) 1 = if f n = true then 1 else 0 := by
      unfold Cs.cnt
      cases hfn : f n <;> simp [List.range_one, hfn]
    rw [e1] at e
    by_cases hf : f n = true
    · rw [if_pos hf] at e
      by_cases hin : i = n
      · rw [hin]; exact hf
      · exact cnt_full f n (by omega) i (by omega)
    · rw [if_neg hf] at e; omega
theorem all_len : (Cs.memT Cs.all 256).length = 256 := by decide +kernel
theorem len_all (X : BitVec 256) (h : (Cs.memT X 256).length = 256) : X = Cs.all := by
  rw [Cs.memT_len] at h
  refine Cs.ext_get fun i hi => ?_
  rw [cnt_full _ _ h i hi]
  unfold Cs.all
  rw [BitVec.getLsbD_not]; simp [hi]
set_option maxRecDepth 20000 in
set_option maxHeartbeats 1000000 in
theorem rg_print (l : List (Bool × BitVec 256)) (t : ByteArray) (ht : t.data.toList = Cs.itxs l) (a : Option Addr) (n c : Nat) (hn : l.length = n) (hn6 : n ≤ 64) (w : World) (h : LI w a l) :
    Calls Try.prog 16 #[.slice a n c] w fun e w' => e = .returned (.string t) ∧ Below w.heap.size w w' := by
  have HL := Lib.hid (And.intro hn (And.intro h ht))
  clear hn h ht
  go_enter Try.func16, Try.ntmps16
  go_wp2
  go_loopw [3, 4] (fun v i wr => ∃ (k : Nat) (acc : ByteArray), i = .int .i64 k ∧ v = .string acc ∧ k ≤ n ∧ acc.size ≤ 1283 * k ∧ Hid (acc.data.toList = Cs.itxs (l.take k)) ∧ Hid (LI wr a l ∧ Below w.heap.size w wr)) (fun _ i _ => n - (intOf i).toNat)
  case atStart => exact ⟨0, _, rfl, rfl, by omega, by decide, Lib.hid rfl, Lib.hid ⟨HL.out.2.1, Below.refl _ _⟩⟩
  case round =>
    obtain ⟨k, acc, rfl, rfl, hk, hacc, HA, HB⟩ := hrel
    have j0 : (0 : Int) ≤ (k : Int) := by omega
    by_cases hkl : k < n
    · obtain ⟨x, hx⟩ : ∃ x, l[k]? = some x := ⟨_, List.getElem?_eq_getElem (by rw [HL.out.1]; exact hkl)⟩
      rcases HB.out.1 with e | ⟨g, ha, HIL⟩
      · rw [e] at hx; simp at hx
      · subst ha
        obtain ⟨r, X⟩ := x
        have z0 := (HIL.cell hx).1
        have z1 := (HIL.cell hx).2.1
        have z2 := (HIL.cell hx).2.2.1
        have z3 := (HIL.cell hx).2.2.2.1
        have z4 := (HIL.cell hx).2.2.2.2
        dsimp only at z0 z1 z2 z3 z4
        have w1 : IntKind.i64.wrap ((k : Int) + 1) = (k : Int) + 1 := IntWalk.i64_in _ (by omega)
        have HX := Lib.hid hx
        have HB2 : Hid (IL wr g l ∧ Below w.heap.size w wr) := Lib.hid ⟨HIL, HB.out.2⟩
        obtain ⟨u, hu⟩ := text_mk (Cs.memT X 256)
        obtain ⟨d, hd⟩ := text_mk (Cs.itx r X)
        have ld := itx_le r X
        rw [← size_of hd] at ld
        have HU := Lib.hid (And.intro hu hd)
        obtain ⟨acc2, hacc2⟩ : ∃ a, acc ++ d = a := ⟨_, rfl⟩
        have hz2 : acc2.size ≤ 1283 * (k + 1) := by rw [← hacc2, ByteArray.size_append]; omega
        have hz3 : acc.size + d.size ≤ 1000000 := by omega
        have HA2 : Hid (acc2.data.toList = Cs.itxs (l.take (k + 1))) := Lib.hid (by rw [take_more l k (r, X) hx, itxs_snoc, ← HA.out, ← hd, ← hacc2, ByteArray.data_append, Array.toList_append])
        have hus : u.size = (Cs.memT X 256).length := size_of hu
        clear hu hx HIL HB
        cases r with
        | true =>
          obtain rfl : d = { data := #[42] } := text_ext (by rw [hd]; rfl)
          clear hd hus
          go_wp2_with (go_at_call 25; rw [sv_def X]; refine (rf_bytes X u HU.out.1 _).mono ?_; rintro e W1 ⟨rfl, hb1⟩; have HB3 : Hid (IL W1 g l ∧ Below w.heap.size w W1) := Lib.hid ⟨HB2.out.1.below hb1, HB2.out.2.trans (hb1.mono HB2.out.2.size)⟩; clear hb1 z0 z1 z2 z3 z4; obtain ⟨z0, z1, z2, z3, z4⟩ := HB3.out.1.cell HX.out; dsimp only at z0 z1 z2 z3 z4)
          refine ⟨?_, ?measure⟩
          case measure => simp [intOf]; omega
          first
            | exact ⟨k + 1, acc2, by go_num, rfl, by omega, hz2, HA2, Lib.hid ⟨Or.inr ⟨g, rfl, HB3.out.1⟩, HB3.out.2⟩⟩
            | ((repeat apply Exists.intro); exact ⟨⟨k + 1, acc2, by go_num, rfl, by omega, hz2, HA2, Lib.hid ⟨Or.inr ⟨g, rfl, HB3.out.1⟩, HB3.out.2⟩⟩, rfl⟩)
        | false =>
          rcases itx_cases X with ⟨h1, h2⟩ | ⟨h1, b, h2, h3⟩ | ⟨h1, h2, h3⟩
          · obtain rfl : d = { data := #[63] } := text_ext (by rw [hd, h2])
            have hu256 : u.size = 256 := by rw [hus, h1, all_len]
            clear hd hus h1 h2
            go_wp2_with (go_at_call 25; rw [sv_def X]; refine (rf_bytes X u HU.out.1 _).mono ?_; rintro e W1 ⟨rfl, hb1⟩; have HB3 : Hid (IL W1 g l ∧ Below w.heap.size w W1) := Lib.hid ⟨HB2.out.1.below hb1, HB2.out.2.trans (hb1.mono HB2.out.2.size)⟩; clear hb1 z0 z1 z2 z3 z4; obtain ⟨z0, z1, z2, z3, z4⟩ := HB3.out.1.cell HX.out; dsimp only at z0 z1 z2 z3 z4)
            refine ⟨?_, ?measure⟩
            case measure => simp [intOf]; omega
            first
              | exact ⟨k + 1, acc2, by go_num, rfl, by omega, hz2, HA2, Lib.hid ⟨Or.inr ⟨g, rfl, HB3.out.1⟩, HB3.out.2⟩⟩
              | ((repeat apply Exists.intro); exact ⟨⟨k + 1, acc2, by go_num, rfl, by omega, hz2, HA2, Lib.hid ⟨Or.inr ⟨g, rfl, HB3.out.1⟩, HB3.out.2⟩⟩, rfl⟩)
          · have hu1 : u.size = 1 := by rw [hus, h2]; rfl
            have HD : Hid (u.data.toList = [b] ∧ d.data.toList = Cs.sg7 b) := Lib.hid ⟨by rw [HU.out.1, h2], by rw [hd, h3]⟩
            clear hd hus h1 h2 h3
            go_wp2_with (first
              | (go_at_call 25; rw [sv_def X]; refine (rf_bytes X u HU.out.1 _).mono ?_; rintro e W1 ⟨rfl, hb1⟩; have HB3 : Hid (IL W1 g l ∧ Below w.heap.size w W1) := Lib.hid ⟨HB2.out.1.below hb1, HB2.out.2.trans (hb1.mono HB2.out.2.size)⟩; clear hb1 z0 z1 z2 z3 z4; obtain ⟨z0, z1, z2, z3, z4⟩ := HB3.out.1.cell HX.out; dsimp only at z0 z1 z2 z3 z4)
              | (go_at_call 26; refine (rg_sign u d b HD.out.1 HD.out.2 _).mono ?_; rintro e W2 ⟨rfl, rfl⟩))
            refine ⟨?_, ?measure⟩
            case measure => simp [intOf]; omega
            first
              | exact ⟨k + 1, acc2, by go_num, rfl, by omega, hz2, HA2, Lib.hid ⟨Or.inr ⟨g, rfl, HB3.out.1⟩, HB3.out.2⟩⟩
              | ((repeat apply Exists.intro); exact ⟨⟨k + 1, acc2, by go_num, rfl, by omega, hz2, HA2, Lib.hid ⟨Or.inr ⟨g, rfl, HB3.out.1⟩, HB3.out.2⟩⟩, rfl⟩)
          · have k1 : ((u.size : Int) == 1) = false := by rw [beq_eq_false_iff_ne, hus]; omega
            have k2 : ((u.size : Int) == 256) = false := by rw [beq_eq_false_iff_ne, hus]; intro e; exact h1 (len_all X (by omega))
            have HD : Hid (d.data.toList = Cs.prt X) := Lib.hid (by rw [hd, h3])
            clear hd hus h1 h2 h3
            go_wp2_with (first
              | (go_at_call 25; rw [sv_def X]; refine (rf_bytes X u HU.out.1 _).mono ?_; rintro e W1 ⟨rfl, hb1⟩; have HB3 : Hid (IL W1 g l ∧ Below w.heap.size w W1) := Lib.hid ⟨HB2.out.1.below hb1, HB2.out.2.trans (hb1.mono HB2.out.2.size)⟩; clear hb1 z0 z1 z2 z3 z4; obtain ⟨z0, z1, z2, z3, z4⟩ := HB3.out.1.cell HX.out; dsimp only at z0 z1 z2 z3 z4)
              | (go_at_call 27; rw [sv_def X]; refine (rf_print X d HD.out _).mono ?_; rintro e W2 ⟨rfl, hb2⟩; have HB4 : Hid (IL W2 g l ∧ Below w.heap.size w W2) := Lib.hid ⟨HB3.out.1.below hb2, HB3.out.2.trans (hb2.mono HB3.out.2.size)⟩; clear hb2))
            refine ⟨?_, ?measure⟩
            case measure => simp [intOf]; omega
            first
              | exact ⟨k + 1, acc2, by go_num, rfl, by omega, hz2, HA2, Lib.hid ⟨Or.inr ⟨g, rfl, HB4.out.1⟩, HB4.out.2⟩⟩
              | ((repeat apply Exists.intro); exact ⟨⟨k + 1, acc2, by go_num, rfl, by omega, hz2, HA2, Lib.hid ⟨Or.inr ⟨g, rfl, HB4.out.1⟩, HB4.out.2⟩⟩, rfl⟩)
    · obtain rfl : k = n := by omega
      have HE : Hid (acc = t) := Lib.hid (text_ext (by rw [HA.out, HL.out.2.2, List.take_of_length_le (by rw [HL.out.1]; exact Nat.le_refl _)]))
      go_wp2
      go_ret
      exact ⟨by rw [HE.out]; rfl, HB.out.2⟩
end Go.Proofs.Ytkihlnomchhiiaa
