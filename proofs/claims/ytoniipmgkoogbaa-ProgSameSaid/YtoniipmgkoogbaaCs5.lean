/- Contracts of sets of bytes: its bytes, signs, parts, and its text. -/
import Derived.Test.YtoniipmgkoogbaaCs4
import Derived.Test.YtoniipmgkoogbaaCsParts
import Derived.Test.YtoniipmgkoogbaaQtA
namespace Go.Proofs.Ytoniipmgkoogbaa
open Go.ChangeShapes Go.WideShapes Go.ChangeAt Go.RowKit
set_option linter.unusedSimpArgs false
set_option linter.unusedVariables false

theorem own_below {w w' : World} {base : Nat} {e : TypeId} {size : Nat} {v : Value} {n : Nat} {xs : List Value} (h : w.ownsRow base e size v n xs) (k : Below w.heap.size w w') : w'.ownsRow base e size v n xs := by
  refine ⟨h.1, ?_⟩
  rcases h.2 with hn | ⟨g, cap, cur, rfl, hb, hgg, rest⟩
  · exact .inl hn
  · exact .inr ⟨g, cap, cur, rfl, hb, (k.block g (Array.getElem?_eq_some_iff.1 hgg).1).trans hgg, rest⟩
theorem cu_one (k : Nat) (hk : k < 256) : cu [UInt8.ofNat k] = [Value.int .u8 (k : Int)] := by
  unfold cu
  rw [List.map_cons, List.map_nil, Cs.toNat_lt hk]
set_option maxRecDepth 20000 in
theorem cs_bytes (X : BitVec 256) (t : ByteArray) (ht : t.data.toList = Cs.memT X 256) (w : World) :
    Calls Try.prog 43 #[Cs.sv X] w fun e w' => e = .returned (.string t) ∧ Below w.heap.size w w' := by
  have HT := Lib.hid ht
  clear ht
  obtain ⟨i0, hi, hz0, hz1, hz2⟩ := info_parts info5
  have HI := Lib.hid hi
  have HI0 := Lib.hid hz0
  have HI1 := Lib.hid hz1
  have HI2 := Lib.hid hz2
  clear hi hz0 hz1 hz2
  have hc : Hid (SB (w.alloc (.cells #[.int .u64 (Cs.wd X 0), .int .u64 (Cs.wd X 1), .int .u64 (Cs.wd X 2), .int .u64 (Cs.wd X 3)] 67)) w.heap.size X ∧ Below w.heap.size w (w.alloc (.cells #[.int .u64 (Cs.wd X 0), .int .u64 (Cs.wd X 1), .int .u64 (Cs.wd X 2), .int .u64 (Cs.wd X 3)] 67))) := Lib.hid ⟨SB.new w X, (Below.refl _ _).alloc (Nat.le_refl _) _⟩
  unfold Cs.sv
  go_enter Try.func43, Try.ntmps43
  go_upto_region 1 with fail
  revert hc
  generalize w.alloc (.cells #[.int .u64 (Cs.wd X 0), .int .u64 (Cs.wd X 1), .int .u64 (Cs.wd X 2), .int .u64 (Cs.wd X 3)] 67) = W
  intro hc
  go_wp2
  go_loopw [3, 5] (fun v i wr => ∃ (k m : Nat), i = .int .i64 k ∧ k ≤ 256 ∧ m ≤ k ∧ Hid (SB wr w.heap.size X ∧ wr.ownsRow (w.heap.size + 1) 5 1 v m (cu (Cs.memT X k)) ∧ Below w.heap.size w wr)) (fun _ i _ => 256 - (intOf i).toNat)
  case atStart => exact ⟨0, 0, rfl, by omega, by omega, Lib.hid ⟨hc.out.1, World.ownsRow_nil _ _ _ _, hc.out.2⟩⟩
  case round =>
    clear hc
    obtain ⟨k, m, rfl, hk, hm, HB⟩ := hrel
    have j0 : (0 : Int) ≤ (k : Int) := by omega
    by_cases hkl : k < 256
    · have cw : IntKind.u8.wrap (k : Int) = k := by simp [IntKind.wrap, IntKind.signed, IntKind.bits]; omega
      cases hr : X.getLsbD k with
      | false =>
        have HR := Lib.hid hr
        have HM : Hid (Cs.memT X (k + 1) = Cs.memT X k) := Lib.hid (by rw [Cs.memT_step, hr]; rfl)
        clear hr
        have x0 := HB.out.1.at (i := 0) (by decide)
        have x1 := HB.out.1.at (i := 1) (by decide)
        have x2 := HB.out.1.at (i := 2) (by decide)
        have x3 := HB.out.1.at (i := 3) (by decide)
        go_wp2_with (go_at_call 47; rw [sv_def X]; refine (cs_has X k hkl false HR.out _).mono ?_; rintro e w2 ⟨rfl, hb2⟩; have HB1 : Hid (SB w2 w.heap.size X ∧ w2.ownsRow (w.heap.size + 1) 5 1 u3 m (cu (Cs.memT X (k + 1))) ∧ Below w.heap.size w w2) := Lib.hid ⟨HB.out.1.below hb2, by rw [HM.out]; exact own_below HB.out.2.1 hb2, HB.out.2.2.trans (hb2.mono HB.out.2.2.size)⟩; clear hb2)
        refine ⟨?_, ?measure⟩
        case measure => simp [intOf]; omega
        first
          | exact ⟨k + 1, m, by go_num, by omega, by omega, HB1⟩
          | ((repeat apply Exists.intro); exact ⟨⟨k + 1, m, by go_num, by omega, by omega, HB1⟩, rfl⟩)
      | true =>
        have HR := Lib.hid hr
        have HM : Hid (Cs.memT X (k + 1) = Cs.memT X k ++ [UInt8.ofNat k]) := Lib.hid (by rw [Cs.memT_step, hr]; rfl)
        clear hr
        have x0 := HB.out.1.at (i := 0) (by decide)
        have x1 := HB.out.1.at (i := 1) (by decide)
        have x2 := HB.out.1.at (i := 2) (by decide)
        have x3 := HB.out.1.at (i := 3) (by decide)
        go_wp2_with (first
          | (go_at_call 47; rw [sv_def X]; refine (cs_has X k hkl true HR.out _).mono ?_; rintro e w2 ⟨rfl, hb2⟩; have HB1 : Hid (SB w2 w.heap.size X ∧ w2.ownsRow (w.heap.size + 1) 5 1 u3 m (cu (Cs.memT X k)) ∧ Below w.heap.size w w2) := Lib.hid ⟨HB.out.1.below hb2, own_below HB.out.2.1 hb2, HB.out.2.2.trans (hb2.mono HB.out.2.2.size)⟩; clear hb2)
          | (at_builtin; refine wpList_append_own _ rfl _ _ 82 rfl (w.heap.size + 1) 5 i0 (.int .u8 0) 1 1 Try.underlying82 HI.out HI0.out HI1.out HI2.out rfl (by decide) _ _ _ rfl (HB1.out.2.1.alloc _) ⟨w2.heap.size, 0, none⟩ 1 1 [.int .u8 k] rfl rfl (one_new _ _ _) (one_u8 _) (by unfold maxLen; omega) (by omega) (by have := HB1.out.1.lt; simp; omega) ?_))
        intro v' w3 hown hgrow _
        have HN : Hid (SB w3 w.heap.size X ∧ w3.ownsRow (w.heap.size + 1) 5 1 v' (m + 1) (cu (Cs.memT X (k + 1))) ∧ Below w.heap.size w w3) := by
          have hlt := HB1.out.1.lt
          have hb1 : Below (w.heap.size + 1) w2 w3 := ((Below.refl _ _).alloc (by omega) _).grown hgrow (by simp; omega) (fun q hq => (HB1.out.2.1.lt q hq).1)
          refine Lib.hid ⟨Blk.below HB1.out.1 hb1 (by omega), ?_, HB1.out.2.2.trans (hb1.mono (by omega))⟩
          rw [HM.out, cu_append, cu_one k hkl]; exact hown
        clear hown hgrow
        go_wp2
        refine ⟨?_, ?measure⟩
        case measure => simp [intOf]; omega
        first
          | exact ⟨k + 1, m + 1, by go_num, by omega, by omega, HN⟩
          | ((repeat apply Exists.intro); exact ⟨⟨k + 1, m + 1, by go_num, by omega, by omega, HN⟩, rfl⟩)
    · obtain rfl : k = 256 := by omega
      have hcv := conv_own (t := t) (by rw [HT.out]; exact HB.out.2.1)
      go_wp2
      go_ret
      exact ⟨rfl, HB.out.2.2⟩
end Go.Proofs.Ytoniipmgkoogbaa
