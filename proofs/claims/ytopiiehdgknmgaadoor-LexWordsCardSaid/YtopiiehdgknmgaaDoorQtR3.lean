/- The document's own answers of layer 2: Read, Whole; and layer 2's own check and cut. -/
import Derived.Test.YtopiiehdgknmgaaDoorQtR2
namespace Go.Proofs.YtopiiehdgknmgaaDoor
open Go.ChangeShapes Go.WideShapes Go.ChangeAt Go.RowKit
set_option linter.unusedSimpArgs false
set_option linter.unusedVariables false

theorem qr_read_0 (w : World) :
    Calls Tryd.prog 26 #[.string ⟨#[]⟩] w fun e w' => e = .returned (.tuple #[.string ⟨#[]⟩, .int .i64 0, .int .i64 3]) ∧ Below w.heap.size w w' := by
  go_enter Tryd.func26, Tryd.ntmps26
  go_wp2
  go_ret3
  exact ⟨rfl, by go_grown⟩
theorem qr_read_no (s : ByteArray) (h0 : 0 < s.size) (hs : s.size ≤ 1000000) (h34 : ((s[0].toNat : Int) == 34) = false) (w : World) :
    Calls Tryd.prog 26 #[.string s] w fun e w' => e = .returned (.tuple #[.string ⟨#[]⟩, .int .i64 0, .int .i64 2]) ∧ Below w.heap.size w w' := by
  have he := ne_empty s h0
  have hz : ((0 : Int) == (s.size : Int)) = false := by rw [beq_eq_false_iff_ne]; omega
  go_enter Tryd.func26, Tryd.ntmps26
  go_wp2
  go_ret3
  exact ⟨rfl, by go_grown⟩
set_option maxRecDepth 20000 in
set_option maxHeartbeats 4000000 in
theorem qr_read_yes (s t : ByteArray) (n : Nat) (e : Int) (h0 : 0 < s.size) (hs : s.size ≤ 4000) (h34 : (s[0].toNat : Int) = 34) (hr : Qt.rd s.size (s.data.toList.drop 1) 1 [] = (t.data.toList, n, e)) (w : World) :
    Calls Tryd.prog 26 #[.string s] w fun en w' => en = .returned (.tuple #[.string t, .int .i64 n, .int .i64 e]) ∧ Below w.heap.size w w' := by
  have he := ne_empty s h0
  obtain ⟨l, hl⟩ : ∃ l, s.size = l := ⟨_, rfl⟩
  have HL := Lib.hid hl
  have HR : Hid (∃ f, Qt.rd f (s.data.toList.drop 1) 1 [] = (t.data.toList, n, e) ∧ l - 1 < f) := Lib.hid ⟨s.size, hr, by omega⟩
  rw [hl] at h0 hs
  clear hr
  go_enter Tryd.func26, Tryd.ntmps26
  go_wp2
  go_loopw [5, 6] (fun i v wr => ∃ (k m g c : Nat) (out : List UInt8), i = .int .i64 k ∧ v = .slice (some ⟨g, 0, none⟩) m c ∧ 1 ≤ k ∧ k ≤ l ∧ m ≤ k ∧ Hid (∃ f, Qt.rd f (s.data.toList.drop k) k out = (t.data.toList, n, e) ∧ l - k < f) ∧ Hid (Rw wr g c (cu out) 5 ∧ out.length = m ∧ w.heap.size ≤ g ∧ Below w.heap.size w wr)) (fun i _ _ => l - (intOf i).toNat)
  case atStart => exact ⟨1, 0, _, 0, [], rfl, rfl, by omega, by omega, by omega, HR, Lib.hid ⟨Rw.empty w 5, rfl, by omega, (Below.refl _ _).alloc (Nat.le_refl _) _⟩⟩
  case round =>
    obtain ⟨k, m, g, c, out, rfl, rfl, hk1, hk, hm, HD, HO⟩ := hrel
    have hsl := HL.out
    have ig0 : (0 : Int) ≤ (k : Int) := by omega
    have hdl : (s.data.toList.drop k).length = l - k := by rw [List.length_drop]; simp [hsl]
    by_cases hkl : k < l
    · have i1 : (k : Int) < (l : Int) := by omega
      have hks : k < s.size := by omega
      by_cases h : s[k] = 34
      · have hc : (s[k].toNat : Int) = 34 := by rw [h]; rfl
        have HV : Hid (out = t.data.toList ∧ (k : Int) + 1 = n ∧ (0 : Int) = e) := Lib.hid (by
          obtain ⟨f, hf, hlt⟩ := HD.out
          obtain ⟨f, rfl⟩ : ∃ g, f = g + 1 := ⟨f - 1, by omega⟩
          rw [Qt.rd, if_pos (by rw [drop_cons s k hks, h]; rfl)] at hf
          simp only [Prod.mk.injEq] at hf
          exact ⟨hf.1, by omega, hf.2.2⟩)
        have hcv := conv_rw wr g m c t (by rw [← HV.out.1]; exact HO.out.1) (by rw [size_of HV.out.1.symm]; exact HO.out.2.1)
        clear h hdl hsl
        go_wp2
        go_ret3
        exact ⟨ret_rd rfl HV.out.2.1 HV.out.2.2, HO.out.2.2.2⟩
      · have hc := u8_ne h 34 rfl
        obtain ⟨u, hu⟩ : ∃ u, s.extract k l = u := ⟨_, rfl⟩
        have hud : u.data.toList = s.data.toList.drop k := by
          rw [← hu, ByteArray.data_extract, Array.toList_extract, List.extract_eq_take_drop]
          exact List.take_of_length_le (by omega)
        have hus : u.size = l - k := by rw [size_of hud, hdl]
        obtain ⟨b, hb⟩ : ∃ b, (Qt.one u.data.toList).1 = b := ⟨_, rfl⟩
        obtain ⟨j, hj⟩ : ∃ j, (Qt.one u.data.toList).2.1 = j := ⟨_, rfl⟩
        have hole := Qt.one_le u.data.toList
        have hul : u.data.toList.length = l - k := by rw [hud, hdl]
        rw [hj, hul] at hole
        have hne : (s.data.toList.drop k).head? ≠ some 34 := by
          rw [drop_cons s k hks]; simpa using h
        cases hok : (Qt.one u.data.toList).2.2 with
        | true =>
          have ho : Qt.one u.data.toList = (b, j, true) := by rw [← hb, ← hj, ← hok]
          have HU := Lib.hid ho
          have hj1 := hole.2 hok
          have hj2 := hole.1
          have HD2 : Hid (∃ f, Qt.rd f (s.data.toList.drop (k + j)) (k + j) (out ++ [b]) = (t.data.toList, n, e) ∧ l - (k + j) < f) := Lib.hid (by
            obtain ⟨f, hf, hlt⟩ := HD.out
            obtain ⟨f, rfl⟩ : ∃ g, f = g + 1 := ⟨f - 1, by omega⟩
            rw [Qt.rd, if_neg hne, ← hud, ho] at hf
            simp only [if_true] at hf
            rw [hud, List.drop_drop] at hf
            exact ⟨f, hf, by omega⟩)
          have hus2 : u.size ≤ 1000000 := by omega
          clear hok ho hud hus hul hole hj hb h hdl hsl hne HD
          go_wp2_with (first
            | (go_at_call 35; refine (o1_any u hus2 b j true HU.out _).mono ?_; rintro en w2 ⟨rfl, hb2⟩; have HO2 : Hid (Rw w2 g c (cu out) 5 ∧ out.length = m ∧ w.heap.size ≤ g ∧ Below w.heap.size w w2) := Lib.hid ⟨HO.out.1.fresh hb2, HO.out.2.1, HO.out.2.2.1, HO.out.2.2.2.trans (hb2.mono HO.out.2.2.2.size)⟩; clear hb2)
            | (at_builtin; refine wpList_append_rw _ rfl (.tmp 45) (.tmp 47) 38 38 rfl 5 (.int .u8 0) 1 Tryd.underlying38 info5 rfl g m c (cu out) rfl (by rw [cu_length, HO2.out.2.1]) (HO2.out.1.chg ((Chg.refl [] _).alloc _) (by simp)) _ rfl 1 _ (Src.ofSlice _ Tryd.underlying38 ⟨_, 0, none⟩ 1 1 [.int .u8 b.toNat] rfl (one_new _ _ _) (one_u8 _)) (by omega) (by omega) ?_; intro g4 c4 w4 r1 r2 r3; have HO4 : Hid (Rw w4 g4 c4 (cu (out ++ [b])) 5 ∧ (out ++ [b]).length = m + 1 ∧ w.heap.size ≤ g4 ∧ Below w.heap.size w w4) := Lib.hid (by
                obtain ⟨q1, q2, q3, q4⟩ := HO2.out
                have hs4 := q4.size
                rw [World.size_alloc] at r2
                refine ⟨by rw [cu_append]; exact r1, by simp [q2], by omega, r3.onto (q4.alloc hs4 _) (by simp; omega) (by simp; omega)⟩); clear r1 r2 r3))
          go_roundw
          case rel => exact ⟨k + j, m + 1, g4, c4, out ++ [b], by go_num, rfl, by omega, by omega, by omega, HD2, HO4⟩
          case measure => simp [intOf]; omega
        | false =>
          have ho : Qt.one u.data.toList = (b, j, false) := by rw [← hb, ← hj, ← hok]
          have HU := Lib.hid ho
          have HV : Hid ((⟨#[]⟩ : ByteArray) = t ∧ (k : Int) + j = n ∧ (if l - k = j then 3 else 2) = e) := Lib.hid (by
            obtain ⟨f, hf, hlt⟩ := HD.out
            obtain ⟨f, rfl⟩ : ∃ g, f = g + 1 := ⟨f - 1, by omega⟩
            rw [Qt.rd, if_neg hne, ← hud, ho, hul] at hf
            simp only [Bool.false_eq_true, if_false, Prod.mk.injEq] at hf
            exact ⟨text_ext hf.1, by omega, hf.2.2⟩)
          have hj2 := hole.1
          have hus2 : u.size ≤ 1000000 := by omega
          clear hok ho hud hus hul hole hj hb h hdl hsl hne HD
          by_cases hjl : l - k = j
          · have HE : Hid ((3 : Int) = e) := Lib.hid (by rw [← HV.out.2.2, if_pos hjl])
            have q1 : ((k : Int) + (j : Int) == (l : Int)) = true := by rw [beq_iff_eq]; omega
            clear hjl
            go_wp2_with (go_at_call 35; refine (o1_any u hus2 b j false HU.out _).mono ?_; rintro en w2 ⟨rfl, hb2⟩; have HB2 := Lib.hid (HO.out.2.2.2.trans (hb2.mono HO.out.2.2.2.size)); clear hb2)
            go_ret3
            exact ⟨ret_rd HV.out.1 HV.out.2.1 HE.out, HB2.out⟩
          · have HE : Hid ((2 : Int) = e) := Lib.hid (by rw [← HV.out.2.2, if_neg hjl])
            have q1 : ((k : Int) + (j : Int) == (l : Int)) = false := by rw [beq_eq_false_iff_ne]; omega
            clear hjl
            go_wp2_with (go_at_call 35; refine (o1_any u hus2 b j false HU.out _).mono ?_; rintro en w2 ⟨rfl, hb2⟩; have HB2 := Lib.hid (HO.out.2.2.2.trans (hb2.mono HO.out.2.2.2.size)); clear hb2)
            go_ret3
            exact ⟨ret_rd HV.out.1 HV.out.2.1 HE.out, HB2.out⟩
    · have i1 : ¬ (k : Int) < (l : Int) := by omega
      obtain rfl : k = l := by omega
      obtain ⟨b, hb0⟩ : ∃ b : UInt8, b = 0 := ⟨_, rfl⟩
      obtain ⟨j, hj0⟩ : ∃ j : Nat, j = 0 := ⟨_, rfl⟩
      have HU : Hid (Qt.one ByteArray.empty.data.toList = (b, j, false)) := Lib.hid (by rw [hb0, hj0]; rfl)
      have hus2 : ByteArray.empty.size ≤ 1000000 := by decide
      have HV : Hid ((⟨#[]⟩ : ByteArray) = t ∧ (k : Int) + j = n ∧ (3 : Int) = e) := Lib.hid (by
        obtain ⟨f, hf, hlt⟩ := HD.out
        obtain ⟨f, rfl⟩ : ∃ g, f = g + 1 := ⟨f - 1, by omega⟩
        rw [drop_end s k (by omega)] at hf
        simp [Qt.rd, Qt.one] at hf
        exact ⟨text_ext (by rw [hf.1]), by omega, hf.2.2⟩)
      have q1 : ((k : Int) + (j : Int) == (k : Int)) = true := by rw [beq_iff_eq]; omega
      have q2 : (k : Int) + (j : Int) ≤ 4000 := by omega
      have q3 : j ≤ 0 := by omega
      clear hdl hsl hb0 hj0 q3
      go_wp2_with (go_at_call 35; with_reducible refine (o1_any ByteArray.empty hus2 b j false HU.out _).mono ?_; rintro en w2 ⟨rfl, hb2⟩; have HB2 := Lib.hid (HO.out.2.2.2.trans (hb2.mono HO.out.2.2.2.size)); clear hb2)
      go_ret3
      exact ⟨ret_rd HV.out.1 HV.out.2.1 HV.out.2.2, HB2.out⟩
theorem qr_read_any (s t : ByteArray) (n : Nat) (e : Int) (hs : s.size ≤ 4000) (hr : Qt.read s.data.toList = (t.data.toList, n, e)) (w : World) :
    Calls Tryd.prog 26 #[.string s] w fun en w' => en = .returned (.tuple #[.string t, .int .i64 n, .int .i64 e]) ∧ Below w.heap.size w w' := by
  by_cases h0 : 0 < s.size
  · have hl := list_of s h0
    have hd : (s.data.toList.drop 1).length + 1 = s.size := by rw [List.length_drop]; simp; omega
    rw [hl] at hr
    by_cases h : s[0] = 34
    · simp only [Qt.read, h, if_true] at hr
      rw [hd] at hr
      exact qr_read_yes s t n e h0 hs (by rw [h]; rfl) hr w
    · simp only [Qt.read, h, if_false, Prod.mk.injEq] at hr
      obtain ⟨h1, rfl, rfl⟩ := hr
      obtain rfl : t = ⟨#[]⟩ := text_ext h1.symm
      exact qr_read_no s h0 (by omega) (u8_ne h _ rfl) w
  · have hsz : s.data.toList.length = s.size := by simp
    have hs0 : s = ⟨#[]⟩ := text_ext (List.eq_nil_of_length_eq_zero (by omega))
    rw [hs0] at hr ⊢
    simp only [Qt.read, Prod.mk.injEq] at hr
    obtain ⟨h1, rfl, rfl⟩ := hr
    obtain rfl : t = ⟨#[]⟩ := text_ext h1.symm
    exact qr_read_0 w
/-- A text, cut. -/
def cutT (s : ByteArray) (m : Nat) : ByteArray := if m < s.size then s.extract 0 m else s
theorem cutT_le (s : ByteArray) (m : Nat) : (cutT s m).size ≤ m := by
  unfold cutT
  split
  · rw [ByteArray.size_extract]; omega
  · omega
theorem cut_any (s t : ByteArray) (m : Nat) (hm : m ≤ 1000) (hs : s.size ≤ maxLen) (ht : cutT s m = t) (w : World) :
    Calls Tryd.prog 6 #[.string s, .int .i64 m] w fun e w' => e = .returned (.string t) ∧ w = w' := by
  unfold maxLen at hs
  unfold cutT at ht
  by_cases h : m < s.size
  · rw [if_pos h] at ht
    have i1 : (m : Int) < (s.size : Int) := by omega
    go_enter Tryd.func6, Tryd.ntmps6
    go_wp2
    go_ret
    exact ⟨rfl, rfl⟩
  · rw [if_neg h] at ht
    subst ht
    have i1 : ¬ (m : Int) < (s.size : Int) := by omega
    go_enter Tryd.func6, Tryd.ntmps6
    go_wp2
    go_ret
    exact ⟨rfl, rfl⟩
end Go.Proofs.YtopiiehdgknmgaaDoor
