/- The document's own answers of layer 2: sign, Quote, value. -/
import Derived.Test.YtfhhkmjjifbfeaaGreatDoorQt4
namespace Go.Proofs.YtfhhkmjjifbfeaaGreatDoor
open Go.ChangeShapes Go.WideShapes Go.ChangeAt Go.RowKit
set_option linter.unusedSimpArgs false
set_option linter.unusedVariables false

theorem ret_str {a b : ByteArray} (h : a = b) : Ending.returned (.string a) = .returned (.string b) := by rw [h]
theorem hex_ext (m : Int) (h0 : 0 ≤ m) (h1 : m < 16) : (ByteArray.extract { data := #[48, 49, 50, 51, 52, 53, 54, 55, 56, 57, 97, 98, 99, 100, 101, 102] } m.toNat (m + 1).toNat).data.toList = [Qt.hexd m.toNat] := by
  have h : ∀ k : Fin 16, (ByteArray.extract { data := #[48, 49, 50, 51, 52, 53, 54, 55, 56, 57, 97, 98, 99, 100, 101, 102] } k.val (k.val + 1)).data.toList = [Qt.hexd k.val] := by decide +kernel
  have := h ⟨m.toNat, by omega⟩
  have e : (m + 1).toNat = m.toNat + 1 := by omega
  rw [e]; exact this
theorem qr_sign_const (c : UInt8) (t : ByteArray) (ht : t.data.toList = Qt.sgn c) (hc : c = 34 ∨ c = 92 ∨ c = 10 ∨ c = 13 ∨ c = 9) (w : World) :
    Calls Tryz.prog 50 #[.int .u8 c.toNat] w fun e w' => e = .returned (.string t) ∧ Below w.heap.size w w' := by
  rcases hc with rfl | rfl | rfl | rfl | rfl
  · obtain rfl : t = ⟨#[92, 34]⟩ := text_ext (by rw [ht]; rfl)
    have e : ((34 : UInt8).toNat : Int) = 34 := rfl
    rw [e]; clear e ht
    go_enter Tryz.func50, Tryz.ntmps50
    go_wp2
    go_ret
    exact ⟨rfl, Below.refl _ _⟩
  · obtain rfl : t = ⟨#[92, 92]⟩ := text_ext (by rw [ht]; rfl)
    have e : ((92 : UInt8).toNat : Int) = 92 := rfl
    rw [e]; clear e ht
    go_enter Tryz.func50, Tryz.ntmps50
    go_wp2
    go_ret
    exact ⟨rfl, Below.refl _ _⟩
  · obtain rfl : t = ⟨#[92, 110]⟩ := text_ext (by rw [ht]; rfl)
    have e : ((10 : UInt8).toNat : Int) = 10 := rfl
    rw [e]; clear e ht
    go_enter Tryz.func50, Tryz.ntmps50
    go_wp2
    go_ret
    exact ⟨rfl, Below.refl _ _⟩
  · obtain rfl : t = ⟨#[92, 114]⟩ := text_ext (by rw [ht]; rfl)
    have e : ((13 : UInt8).toNat : Int) = 13 := rfl
    rw [e]; clear e ht
    go_enter Tryz.func50, Tryz.ntmps50
    go_wp2
    go_ret
    exact ⟨rfl, Below.refl _ _⟩
  · obtain rfl : t = ⟨#[92, 116]⟩ := text_ext (by rw [ht]; rfl)
    have e : ((9 : UInt8).toNat : Int) = 9 := rfl
    rw [e]; clear e ht
    go_enter Tryz.func50, Tryz.ntmps50
    go_wp2
    go_ret
    exact ⟨rfl, Below.refl _ _⟩
theorem qr_sign_plain (c : UInt8) (t : ByteArray) (ht : t.data.toList = [c]) (h1 : 32 ≤ (c.toNat : Int)) (h2 : (c.toNat : Int) ≤ 126) (h3 : ¬ c = 34) (h4 : ¬ c = 92) (w : World) :
    Calls Tryz.prog 50 #[.int .u8 c.toNat] w fun e w' => e = .returned (.string t) ∧ Below w.heap.size w w' := by
  have k3 := u8_ne h3 34 rfl
  have k4 := u8_ne h4 92 rfl
  have k5 : ((c.toNat : Int) == 10) = false := by rw [beq_eq_false_iff_ne]; omega
  have k6 : ((c.toNat : Int) == 13) = false := by rw [beq_eq_false_iff_ne]; omega
  have k7 : ((c.toNat : Int) == 9) = false := by rw [beq_eq_false_iff_ne]; omega
  have HT := Lib.hid ht
  clear ht h3 h4
  obtain ⟨n, hn⟩ : ∃ n : Int, (c.toNat : Int) = n := ⟨_, rfl⟩
  have HN := Lib.hid hn
  rw [hn] at k3 k4 k5 k6 k7 h1 h2 ⊢
  clear hn
  have h5 : n < 127 := by omega
  have hcv : (convert 56 9 (.slice (some ⟨w.heap.size, 0, none⟩) 1 1)).run Tryz.prog (w.alloc (.cells #[.int .u8 n] 5)) = .ok (.string t) (w.alloc (.cells #[.int .u8 n] 5)) :=
    conv_blk _ _ 1 1 t 5 [] (by rw [bv_of HT.out, List.append_nil, List.map_cons, List.map_nil, HN.out]; exact Blk.newA w _ _) (by rw [size_of HT.out]; rfl)
  go_enter Tryz.func50, Tryz.ntmps50
  go_wp2
  go_ret
  exact ⟨rfl, by go_grown⟩
theorem qr_sign_hex (c : UInt8) (t : ByteArray) (ht : t.data.toList = [92, 120, Qt.hexd (c.toNat / 16), Qt.hexd (c.toNat % 16)]) (h1 : ¬ (32 ≤ (c.toNat : Int) ∧ (c.toNat : Int) ≤ 126)) (h5 : ¬ c = 10) (h6 : ¬ c = 13) (h7 : ¬ c = 9) (w : World) :
    Calls Tryz.prog 50 #[.int .u8 c.toNat] w fun e w' => e = .returned (.string t) ∧ Below w.heap.size w w' := by
  have k3 : ((c.toNat : Int) == 34) = false := by rw [beq_eq_false_iff_ne]; omega
  have k4 : ((c.toNat : Int) == 92) = false := by rw [beq_eq_false_iff_ne]; omega
  have k5 := u8_ne h5 10 rfl
  have k6 := u8_ne h6 13 rfl
  have k7 := u8_ne h7 9 rfl
  have HT := Lib.hid ht
  clear ht h5 h6 h7
  have hu := u8_lt c
  obtain ⟨n, hn⟩ : ∃ n : Int, (c.toNat : Int) = n := ⟨_, rfl⟩
  have HN := Lib.hid hn
  have b0 : 0 ≤ n := by omega
  rw [hn] at k3 k4 k5 k6 k7 h1 hu ⊢
  clear hn
  have q1 : 0 ≤ n / 16 := by omega
  have q2 : n / 16 < 16 := by omega
  have q3 : 0 ≤ n % 16 := by omega
  have q4 : n % 16 < 16 := by omega
  have HE : Hid ((({ data := #[92, 120] } : ByteArray) ++ ByteArray.extract { data := #[48, 49, 50, 51, 52, 53, 54, 55, 56, 57, 97, 98, 99, 100, 101, 102] } (n / 16).toNat (n / 16 + 1).toNat ++ ByteArray.extract { data := #[48, 49, 50, 51, 52, 53, 54, 55, 56, 57, 97, 98, 99, 100, 101, 102] } (n % 16).toNat (n % 16 + 1).toNat) = t) := Lib.hid (text_ext (by
    rw [HT.out, ByteArray.data_append, ByteArray.data_append, Array.toList_append, Array.toList_append, hex_ext _ q1 q2, hex_ext _ q3 q4, ← HN.out]; rfl))
  rcases (by omega : n < 32 ∨ (32 ≤ n ∧ 127 ≤ n)) with h8 | ⟨h8, h9⟩
  · go_enter Tryz.func50, Tryz.ntmps50
    go_wp2
    go_region
    all_goals
      go_wp2
      go_ret
      exact ⟨ret_str HE.out, (Below.refl _ _).drew⟩
  · go_enter Tryz.func50, Tryz.ntmps50
    go_wp2
    go_region
    all_goals
      go_wp2
      go_ret
      exact ⟨ret_str HE.out, (Below.refl _ _).drew⟩
theorem qr_sign_any (c : UInt8) (t : ByteArray) (ht : t.data.toList = Qt.sgn c) (w : World) :
    Calls Tryz.prog 50 #[.int .u8 c.toNat] w fun e w' => e = .returned (.string t) ∧ Below w.heap.size w w' := by
  by_cases h : c = 34 ∨ c = 92 ∨ c = 10 ∨ c = 13 ∨ c = 9
  · exact qr_sign_const c t ht h w
  · simp only [not_or] at h
    obtain ⟨h1, h2, h3, h4, h5⟩ := h
    unfold Qt.sgn at ht
    rw [if_neg h1, if_neg h2, if_neg h3, if_neg h4, if_neg h5] at ht
    by_cases h6 : 32 ≤ c.toNat ∧ c.toNat ≤ 126
    · rw [if_pos h6] at ht
      exact qr_sign_plain c t ht (by omega) (by omega) h1 h2 w
    · rw [if_neg h6] at ht
      exact qr_sign_hex c t ht (by omega) h3 h4 h5 w
theorem qr_quote (s t : ByteArray) (hs : s.size ≤ 4000) (ht : t.data.toList = Qt.quo s.data.toList) (w : World) :
    Calls Tryz.prog 32 #[.string s] w fun e w' => e = .returned (.string t) ∧ Below w.heap.size w w' := by
  have HT := Lib.hid ht
  obtain ⟨n, hn⟩ : ∃ n, s.size = n := ⟨_, rfl⟩
  have HN := Lib.hid hn
  rw [hn] at hs
  clear ht
  go_enter Tryz.func32, Tryz.ntmps32
  go_wp2
  go_loopw [3, 4] (fun v i wr => ∃ (k : Nat) (o : ByteArray), v = .string o ∧ i = .int .i64 k ∧ k ≤ n ∧ Hid (o.data.toList = 34 :: (s.data.toList.take k).flatMap Qt.sgn) ∧ Hid (Below w.heap.size w wr)) (fun _ i _ => n - (intOf i).toNat)
  case atStart => exact ⟨0, ⟨#[34]⟩, rfl, rfl, by omega, Lib.hid rfl, Lib.hid (Below.refl _ _)⟩
  case round =>
    obtain ⟨k, o, rfl, rfl, hk, HO, HB⟩ := hrel
    have hol : o.size ≤ 4 * k + 1 := by
      have h1 := size_of HO.out
      have := (Qt.flat_le (s.data.toList.take k)).2
      have := List.length_take_le k s.data.toList
      simp only [List.length_cons] at h1; omega
    by_cases hkn : k < n
    · have i1 : (k : Int) < (n : Int) := by omega
      have i0 : (0 : Int) ≤ (k : Int) := by omega
      have hks : k < s.size := by rw [HN.out]; exact hkn
      obtain ⟨x, hx⟩ : ∃ x, s[k] = x := ⟨_, rfl⟩
      obtain ⟨t1, ht1⟩ := text_mk (Qt.sgn x)
      have HT1 := Lib.hid ht1
      have l1 := size_of ht1
      have l2 := (Qt.sgn_all x).2.2
      rw [← l1] at l2
      obtain ⟨o2, ho2⟩ : ∃ o2, o ++ t1 = o2 := ⟨_, rfl⟩
      have HO2 : Hid (o2.data.toList = 34 :: (s.data.toList.take (k + 1)).flatMap Qt.sgn) := Lib.hid (by
        rw [← ho2, ByteArray.data_append, Array.toList_append, HO.out, HT1.out]
        rw [List.take_succ_eq_append_getElem (by simpa using hks), List.flatMap_append]
        have : s.data.toList[k]'(by simpa using hks) = x := hx
        rw [this]; simp)
      clear ht1 l1
      go_wp2_with (go_at_call 50; refine (qr_sign_any x t1 HT1.out _).mono ?_; rintro e w2 ⟨rfl, hb⟩; have HB2 : Hid (Below w.heap.size w w2) := Lib.hid (HB.out.trans (hb.mono HB.out.size)); clear hb)
      go_roundw
      case rel => exact ⟨k + 1, o2, rfl, by go_num, by omega, HO2, HB2⟩
      case measure => simp [intOf]; omega
    · have i1 : ¬ (k : Int) < (n : Int) := by omega
      have HV : Hid (o ++ { data := #[34] } = t) := Lib.hid (text_ext (by
        rw [ByteArray.data_append, Array.toList_append, HT.out, HO.out, List.take_of_length_le (by have := HN.out; simp; omega)]; rfl))
      go_wp2
      go_ret
      exact ⟨ret_str HV.out, HB.out⟩
theorem hexd_nat (k : Nat) (h1 : k < 16) (hb : k < ByteArray.size { data := #[48, 49, 50, 51, 52, 53, 54, 55, 56, 57, 97, 98, 99, 100, 101, 102] }) :
    ({ data := #[48, 49, 50, 51, 52, 53, 54, 55, 56, 57, 97, 98, 99, 100, 101, 102] } : ByteArray)[k]'hb = Qt.hexd k := hexd_at k (by omega) (by omega) hb
theorem val_hexd (k : Nat) (h : k < 16) : Qt.val (Qt.hexd k) = some k := by
  have h' : ∀ m : Fin 16, Qt.val (Qt.hexd m.val) = some m.val := by decide
  exact h' ⟨k, h⟩
end Go.Proofs.YtfhhkmjjifbfeaaGreatDoor
