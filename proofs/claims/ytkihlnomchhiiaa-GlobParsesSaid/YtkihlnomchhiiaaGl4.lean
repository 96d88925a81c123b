/- Contracts of patterns as texts: plain bytes, by the program and by the document. -/
import Derived.Test.YtkihlnomchhiiaaGl3
namespace Go.Proofs.Ytkihlnomchhiiaa
open Go.ChangeShapes Go.WideShapes Go.ChangeAt Go.RowKit
set_option linter.unusedSimpArgs false
set_option linter.unusedVariables false

/-- The text of plain bytes. -/
def Cs.pl (l : List UInt8) : List UInt8 := l.flatMap Cs.sg7
theorem pl_snoc (l : List UInt8) (b : UInt8) : Cs.pl (l ++ [b]) = Cs.pl l ++ Cs.sg7 b := by simp [Cs.pl]
theorem pl_le : ∀ l : List UInt8, (Cs.pl l).length ≤ 2 * l.length
  | [] => by simp [Cs.pl]
  | b :: l => by
    have := pl_le l
    have := (sg7_len b).2
    simp [Cs.pl] at *; omega
theorem take_snoc (s : ByteArray) (k : Nat) (h : k < s.size) : s.data.toList.take (k + 1) = s.data.toList.take k ++ [s[k]] := by
  rw [List.take_succ_eq_append_getElem (by simpa using h)]; rfl
set_option maxRecDepth 20000 in
theorem gl_plain (s t : ByteArray) (hs : s.size ≤ 1000) (ht : t.data.toList = Cs.pl s.data.toList) (w : World) :
    Calls Try.prog 17 #[.string s] w fun e w' => e = .returned (.string t) ∧ Below w.heap.size w w' := by
  obtain ⟨i0, hi, hz0, hz1, hz2⟩ := info_parts info5
  have HI := Lib.hid hi
  have HI0 := Lib.hid hz0
  have HI1 := Lib.hid hz1
  have HI2 := Lib.hid hz2
  clear hi hz0 hz1 hz2
  obtain ⟨n, hn⟩ : ∃ n, s.size = n := ⟨_, rfl⟩
  have HT := Lib.hid (And.intro ht hn)
  rw [hn] at hs
  clear ht
  go_enter Try.func17, Try.ntmps17
  go_wp2
  go_loopw [3, 7] (fun v i wr => ∃ (k m : Nat), i = .int .i64 k ∧ k ≤ n ∧ m ≤ 2 * k ∧ Hid (wr.ownsRow w.heap.size 5 1 v m (cu (Cs.pl (s.data.toList.take k))) ∧ Below w.heap.size w wr)) (fun _ i _ => n - (intOf i).toNat)
  case atStart => exact ⟨0, 0, rfl, by omega, by omega, Lib.hid ⟨World.ownsRow_nil _ _ _ _, Below.refl _ _⟩⟩
  case round =>
    obtain ⟨k, m, rfl, hk, hm, HB⟩ := hrel
    have j0 : (0 : Int) ≤ (k : Int) := by omega
    by_cases hkl : k < n
    · have hks : k < s.size := by omega
      obtain ⟨b, hb⟩ : ∃ b, s[k] = b := ⟨_, rfl⟩
      obtain ⟨u, hu⟩ := text_mk (Cs.sg7 b)
      have lu := sg7_len b
      rw [← size_of hu] at lu
      have HU := Lib.hid (And.intro hu (show s.data.toList.take (k + 1) = s.data.toList.take k ++ [b] by rw [take_snoc s k hks, hb]))
      clear hu
      go_wp2_with (first
        | (go_at_call 28; refine (gl_one b u HU.out.1 _).mono ?_; rintro e W1 ⟨rfl, hb1⟩; have HB1 : Hid (W1.ownsRow w.heap.size 5 1 u3 m (cu (Cs.pl (s.data.toList.take k))) ∧ Below w.heap.size w W1) := Lib.hid ⟨own_below HB.out.1 hb1, HB.out.2.trans (hb1.mono HB.out.2.size)⟩; clear hb1)
        | (at_builtin; refine Lib.wpList_append_own_string _ rfl _ _ 47 9 rfl w.heap.size 5 i0 Try.underlying47 Try.underlying9 HI.out HI0.out HI1.out HI2.out _ _ _ rfl HB1.out.1 u rfl (by unfold maxLen; omega) (by omega) (by have := HB1.out.2.size; omega) ?_))
      intro v' w3 hown hgrow _
      have HN : Hid (w3.ownsRow w.heap.size 5 1 v' (m + u.size) (cu (Cs.pl (s.data.toList.take (k + 1)))) ∧ Below w.heap.size w w3) := by
        refine Lib.hid ⟨?_, HB1.out.2.grown hgrow HB1.out.2.size (fun q hq => (HB1.out.1.lt q hq).1)⟩
        rw [HU.out.2, pl_snoc, cu_append, ← HU.out.1]; exact hown
      clear hown hgrow
      go_wp2
      refine ⟨?_, ?measure⟩
      case measure => simp [intOf]; omega
      first
        | exact ⟨k + 1, m + u.size, by go_num, by omega, by omega, HN⟩
        | ((repeat apply Exists.intro); exact ⟨⟨k + 1, m + u.size, by go_num, by omega, by omega, HN⟩, rfl⟩)
    · obtain rfl : k = n := by omega
      have hcv := conv_own (t := t) (by rw [HT.out.1]; have := HB.out.1; rw [List.take_of_length_le (by rw [Array.length_toList]; exact Nat.le_of_eq HT.out.2)] at this; exact this)
      go_wp2
      go_ret
      exact ⟨rfl, HB.out.2⟩
set_option maxRecDepth 20000 in
theorem rg_sign (u t : ByteArray) (b : UInt8) (hu : u.data.toList = [b]) (ht : t.data.toList = Cs.sg7 b) (w : World) :
    Calls Try.prog 26 #[.string u] w fun e w' => e = .returned (.string t) ∧ w' = w := by
  have hus : u.size = 1 := size_of hu
  have hu2 : u.data.toList = [UInt8.ofNat b.toNat] := by rw [hu]; simp
  have hb := b.toNat_lt
  have k0 := one_list (b := b.toNat) hb hu2 42
  have k1 := one_list (b := b.toNat) hb hu2 63
  have k2 := one_list (b := b.toNat) hb hu2 91
  have k3 := one_list (b := b.toNat) hb hu2 93
  have k4 := one_list (b := b.toNat) hb hu2 37
  by_cases hs : b = 42 ∨ b = 63 ∨ b = 91 ∨ b = 93 ∨ b = 37
  · have HT : Hid (({ data := #[37] } : ByteArray) ++ u = t) := Lib.hid (text_ext (by
      rw [ht]; unfold Cs.sg7; rw [if_pos hs]; simp [ByteArray.data_append, hu]))
    have HK : Hid ((u.toList == [42]) = true ∨ (u.toList == [42]) = false ∧ (u.toList == [63]) = true ∨ (u.toList == [42]) = false ∧ (u.toList == [63]) = false ∧ (u.toList == [91]) = true ∨ (u.toList == [42]) = false ∧ (u.toList == [63]) = false ∧ (u.toList == [91]) = false ∧ (u.toList == [93]) = true ∨ (u.toList == [42]) = false ∧ (u.toList == [63]) = false ∧ (u.toList == [91]) = false ∧ (u.toList == [93]) = false ∧ (u.toList == [37]) = true) := Lib.hid (by
      rw [k0, k1, k2, k3, k4]
      rcases hs with rfl | rfl | rfl | rfl | rfl <;> decide)
    clear k0 k1 k2 k3 k4 hs hu hu2 ht
    rcases HK.out with k0 | ⟨k0, k1⟩ | ⟨k0, k1, k2⟩ | ⟨k0, k1, k2, k3⟩ | ⟨k0, k1, k2, k3, k4⟩
    all_goals
      go_enter Try.func26, Try.ntmps26
      go_wp2
      go_ret
      exact ⟨by rw [HT.out]; rfl, rfl⟩
  · have HT : Hid (u = t) := Lib.hid (text_ext (by rw [ht, hu]; unfold Cs.sg7; rw [if_neg hs]))
    have ne : ∀ c : UInt8, b ≠ c → ¬ b.toNat = c.toNat := fun c h e => h (UInt8.toNat_inj.1 e)
    have g0 : (u.toList == [42]) = false := by rw [k0]; exact decide_eq_false (ne _ fun e => hs (by simp [e]))
    have g1 : (u.toList == [63]) = false := by rw [k1]; exact decide_eq_false (ne _ fun e => hs (by simp [e]))
    have g2 : (u.toList == [91]) = false := by rw [k2]; exact decide_eq_false (ne _ fun e => hs (by simp [e]))
    have g3 : (u.toList == [93]) = false := by rw [k3]; exact decide_eq_false (ne _ fun e => hs (by simp [e]))
    have g4 : (u.toList == [37]) = false := by rw [k4]; exact decide_eq_false (ne _ fun e => hs (by simp [e]))
    clear k0 k1 k2 k3 k4 hs hu hu2 ht
    go_enter Try.func26, Try.ntmps26
    go_wp2
    go_ret
    exact ⟨by rw [HT.out]; rfl, rfl⟩
set_option maxRecDepth 20000 in
theorem rg_plain (s t : ByteArray) (hs : s.size ≤ 1000) (ht : t.data.toList = Cs.pl s.data.toList) (w : World) :
    Calls Try.prog 18 #[.string s] w fun e w' => e = .returned (.string t) ∧ Below w.heap.size w w' := by
  obtain ⟨n, hn⟩ : ∃ n, s.size = n := ⟨_, rfl⟩
  have HT := Lib.hid (And.intro ht hn)
  rw [hn] at hs
  clear ht
  go_enter Try.func18, Try.ntmps18
  go_wp2
  go_loopw [3, 4] (fun v i wr => ∃ (k : Nat) (acc : ByteArray), i = .int .i64 k ∧ v = .string acc ∧ k ≤ n ∧ acc.size ≤ 2 * k ∧ Hid (acc.data.toList = Cs.pl (s.data.toList.take k)) ∧ Hid (Below w.heap.size w wr)) (fun _ i _ => n - (intOf i).toNat)
  case atStart => exact ⟨0, _, rfl, rfl, by omega, by decide, Lib.hid rfl, Lib.hid (Below.refl _ _)⟩
  case round =>
    obtain ⟨k, acc, rfl, rfl, hk, hacc, HA, HB⟩ := hrel
    have j0 : (0 : Int) ≤ (k : Int) := by omega
    by_cases hkl : k < n
    · have hks : k < s.size := by omega
      obtain ⟨b, hb⟩ : ∃ b, s[k] = b := ⟨_, rfl⟩
      obtain ⟨d, hd⟩ := text_mk (Cs.sg7 b)
      have ld := sg7_len b
      rw [← size_of hd] at ld
      obtain ⟨u, hu⟩ : ∃ u, s.extract k (k + 1) = u := ⟨_, rfl⟩
      have HU : Hid (u.data.toList = [b] ∧ d.data.toList = Cs.sg7 b) := Lib.hid ⟨by
        rw [← hu, ByteArray.data_extract, Array.toList_extract, List.extract_eq_take_drop, drop_cons s k hks, hb, show k + 1 - k = 1 by omega]; rfl, hd⟩
      obtain ⟨acc2, hacc2⟩ : ∃ a, acc ++ d = a := ⟨_, rfl⟩
      have hz2 : acc2.size ≤ 2 * (k + 1) := by rw [← hacc2, ByteArray.size_append]; omega
      have HA2 : Hid (acc2.data.toList = Cs.pl (s.data.toList.take (k + 1))) := Lib.hid (by rw [take_snoc s k hks, pl_snoc, ← HA.out, hb, ← HU.out.2, ← hacc2, ByteArray.data_append, Array.toList_append])
      have w1 : IntKind.i64.wrap ((k : Int) + 1) = (k : Int) + 1 := IntWalk.i64_in _ (by omega)
      have hk1 : k + 1 ≤ n := by omega
      clear hd
      go_wp2_with (go_at_call 26; refine (rg_sign u d b HU.out.1 HU.out.2 _).mono ?_; rintro e W1 ⟨rfl, rfl⟩)
      refine ⟨?_, ?measure⟩
      case measure => simp [intOf]; omega
      first
        | exact ⟨k + 1, acc2, by go_num, rfl, by omega, hz2, HA2, HB⟩
        | ((repeat apply Exists.intro); exact ⟨⟨k + 1, acc2, by go_num, rfl, by omega, hz2, HA2, HB⟩, rfl⟩)
    · obtain rfl : k = n := by omega
      have HE : Hid (acc = t) := Lib.hid (text_ext (by rw [HA.out, HT.out.1, List.take_of_length_le (by rw [Array.length_toList]; exact Nat.le_of_eq HT.out.2)]))
      go_wp2
      go_ret
      exact ⟨by rw [HE.out]; rfl, HB.out⟩
end Go.Proofs.Ytkihlnomchhiiaa
