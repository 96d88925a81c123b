/- The document's own answers on sets of bytes: a byte's sign. -/
import Derived.Test.YtkihlnomchhiiaaCsR5
namespace Go.Proofs.Ytkihlnomchhiiaa
open Go.ChangeShapes Go.WideShapes Go.ChangeAt Go.RowKit
set_option linter.unusedSimpArgs false
set_option linter.unusedVariables false

theorem one_list {u : ByteArray} {b : Nat} (hb : b < 256) (hu : u.data.toList = [UInt8.ofNat b]) (c : UInt8) : (u.toList == [c]) = decide (b = c.toNat) := by
  rw [Lib.toList_data, hu]
  by_cases h : b = c.toNat
  · have : UInt8.ofNat b = c := by rw [h]; simp
    simp [this, h]
  · have : UInt8.ofNat b ≠ c := fun e => h (by rw [← e, Cs.toNat_lt hb])
    simp [this, h]
set_option maxRecDepth 20000 in
theorem rf_sign (b : Nat) (hb : b < 256) (t : ByteArray) (ht : t.data.toList = Cs.sgn (UInt8.ofNat b)) (w : World) :
    Calls Try.prog 41 #[.int .i64 b] w fun e w' => e = .returned (.string t) ∧ Below w.heap.size w w' := by
  obtain ⟨u, hu⟩ := text_mk [UInt8.ofNat b]
  have hus : u.size = 1 := size_of hu
  have cw : IntKind.u8.wrap (b : Int) = b := by simp [IntKind.wrap, IntKind.signed, IntKind.bits]; omega
  have hcv := conv_blk (w.alloc (.cells #[.int .u8 (b : Int)] 5)) w.heap.size 1 1 u 5 [] (by
    rw [bv_of hu, List.append_nil, List.map_cons, List.map_nil, Cs.toNat_lt hb]; exact Blk.newA w _ _) hus
  have k1 := one_list hb hu 37
  have k2 := one_list hb hu 93
  have k3 := one_list hb hu 45
  have k4 := one_list hb hu 94
  have hB : Hid (Below w.heap.size w (w.alloc (.cells #[.int .u8 (b : Int)] 5))) := Lib.hid ((Below.refl _ _).alloc (Nat.le_refl _) _)
  by_cases hs : b = 37 ∨ b = 93 ∨ b = 45 ∨ b = 94
  · have HT : Hid (({ data := #[37] } : ByteArray) ++ u = t) := Lib.hid (text_ext (by
      rw [ht]
      unfold Cs.sgn
      rw [if_pos (by rcases hs with rfl | rfl | rfl | rfl <;> decide)]
      simp [ByteArray.data_append, hu]))
    have HK : Hid ((u.toList == [37]) = true ∨ (u.toList == [37]) = false ∧ (u.toList == [93]) = true ∨ (u.toList == [37]) = false ∧ (u.toList == [93]) = false ∧ (u.toList == [45]) = true ∨ (u.toList == [37]) = false ∧ (u.toList == [93]) = false ∧ (u.toList == [45]) = false ∧ (u.toList == [94]) = true) := Lib.hid (by
      rw [k1, k2, k3, k4]
      rcases hs with rfl | rfl | rfl | rfl <;> decide)
    clear k1 k2 k3 k4 hs hu ht
    rcases HK.out with k1 | ⟨k1, k2⟩ | ⟨k1, k2, k3⟩ | ⟨k1, k2, k3, k4⟩
    all_goals
      go_enter Try.func41, Try.ntmps41
      go_wp2
      go_ret
      exact ⟨by rw [HT.out]; rfl, hB.out⟩
  · have HT : Hid (u = t) := Lib.hid (text_ext (by
      rw [ht, hu]
      unfold Cs.sgn
      rw [if_neg]
      intro h
      apply hs
      have e : ∀ c : UInt8, UInt8.ofNat b = c → b = c.toNat := fun c h => by rw [← h, Cs.toNat_lt hb]
      rcases h with h | h | h | h
      · exact Or.inl (e _ h)
      · exact Or.inr (Or.inl (e _ h))
      · exact Or.inr (Or.inr (Or.inl (e _ h)))
      · exact Or.inr (Or.inr (Or.inr (e _ h)))))
    have g1 : (u.toList == [37]) = false := by rw [k1]; exact decide_eq_false fun e => hs (Or.inl e)
    have g2 : (u.toList == [93]) = false := by rw [k2]; exact decide_eq_false fun e => hs (Or.inr (Or.inl e))
    have g3 : (u.toList == [45]) = false := by rw [k3]; exact decide_eq_false fun e => hs (Or.inr (Or.inr (Or.inl e)))
    have g4 : (u.toList == [94]) = false := by rw [k4]; exact decide_eq_false fun e => hs (Or.inr (Or.inr (Or.inr e)))
    clear k1 k2 k3 k4 hs hu ht
    go_enter Try.func41, Try.ntmps41
    go_wp2
    go_ret
    exact ⟨by rw [HT.out]; rfl, hB.out⟩
end Go.Proofs.Ytkihlnomchhiiaa
