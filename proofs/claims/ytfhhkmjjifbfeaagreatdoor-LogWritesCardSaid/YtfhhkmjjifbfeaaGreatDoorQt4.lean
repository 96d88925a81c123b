/- Contracts of texts in quotes (package quote): Read, Whole. -/
import Derived.Test.YtfhhkmjjifbfeaaGreatDoorQt3
namespace Go.Proofs.YtfhhkmjjifbfeaaGreatDoor
open Go.ChangeShapes Go.WideShapes Go.ChangeAt Go.RowKit
set_option linter.unusedSimpArgs false
set_option linter.unusedVariables false

/-- A row of bytes that the call made itself, or none: what it is as a text. -/
theorem own_form {w : World} {base : Nat} {v : Value} {n : Nat} {out : List UInt8} (h : w.ownsRow base 5 1 v n (cu out)) : out.length = n ∧ ((v = .slice none 0 0 ∧ out = []) ∨ ∃ g cap, v = .slice (some ⟨g, 0, none⟩) n cap ∧ base ≤ g ∧ Rw w g cap (cu out) 5) := by
  have hl : out.length = n := by have := h.1; rw [cu_length] at this; omega
  refine ⟨hl, ?_⟩
  by_cases hv : v = .slice none 0 0
  · left
    refine ⟨hv, ?_⟩
    rcases h.2 with ⟨h1, h2⟩ | ⟨g, cap, cur, h1, _⟩
    · exact List.eq_nil_of_length_eq_zero (by omega)
    · rw [hv] at h1; cases h1
  · right
    obtain ⟨g, cap, h1, h2, h3, _⟩ := Rw.of_own h hv
    exact ⟨g, cap, h1, h2, h3⟩
theorem conv_nil (W : World) : (convert 56 9 (.slice none 0 0)).run Tryz.prog W = .ok (.string ⟨#[]⟩) W := by kernel_rfl
theorem conv_own {W : World} {base : Nat} {v : Value} {n : Nat} {t : ByteArray} (h : W.ownsRow base 5 1 v n (cu t.data.toList)) : (convert 56 9 v).run Tryz.prog W = .ok (.string t) W := by
  obtain ⟨hl, ⟨rfl, h2⟩ | ⟨g, cap, rfl, _, h3⟩⟩ := own_form h
  · rw [conv_nil]
    have : (⟨#[]⟩ : ByteArray) = t := text_ext (by rw [h2])
    rw [this]
  · exact conv_rw W g n cap t h3 (by rw [← hl]; simp)
theorem ret_rd {t u : ByteArray} {a b c d : Int} (h1 : t = u) (h2 : a = b) (h3 : c = d) : Ending.returned (.tuple #[.string t, .int .i64 a, .int .i64 c]) = .returned (.tuple #[.string u, .int .i64 b, .int .i64 d]) := by rw [h1, h2, h3]
theorem read_0 (s : ByteArray) (hs : s = ⟨#[]⟩) (w : World) :
    Calls Tryz.prog 75 #[.string s] w fun e w' => e = .returned (.tuple #[.string ⟨#[]⟩, .int .i64 0, .int .i64 3]) ∧ Below w.heap.size w w' := by
  subst hs
  go_enter Tryz.func75, Tryz.ntmps75
  go_wp2
  go_ret3
  exact ⟨rfl, Below.refl _ _⟩
theorem ne_empty (s : ByteArray) (h : 0 < s.size) : s.toList.isEmpty = false := by
  rw [Lib.toList_data, list_of s h]; rfl
theorem read_no (s : ByteArray) (h0 : 0 < s.size) (hs : s.size ≤ 1000000) (h34 : ((s[0].toNat : Int) == 34) = false) (w : World) :
    Calls Tryz.prog 75 #[.string s] w fun e w' => e = .returned (.tuple #[.string ⟨#[]⟩, .int .i64 0, .int .i64 2]) ∧ Below w.heap.size w w' := by
  have he := ne_empty s h0
  have hn : ((s[0].toNat : Int) != 34) = true := by rw [bne, h34]; rfl
  go_enter Tryz.func75, Tryz.ntmps75
  go_wp2
  go_ret3
  exact ⟨rfl, Below.refl _ _⟩
set_option maxRecDepth 20000 in
set_option maxHeartbeats 2000000 in
theorem read_yes (s t : ByteArray) (n : Nat) (e : Int) (h0 : 0 < s.size) (hs : s.size ≤ 4000) (h34 : (s[0].toNat : Int) = 34) (hr : Qt.rd s.size (s.data.toList.drop 1) 1 [] = (t.data.toList, n, e)) (w : World) :
    Calls Tryz.prog 75 #[.string s] w fun en w' => en = .returned (.tuple #[.string t, .int .i64 n, .int .i64 e]) ∧ Below w.heap.size w w' := by
  have he := ne_empty s h0
  obtain ⟨i0, hi, hz0, hz1, hz2⟩ := info_parts info5
  have HI := Lib.hid hi
  have HI0 := Lib.hid hz0
  have HI1 := Lib.hid hz1
  have HI2 := Lib.hid hz2
  obtain ⟨l, hl⟩ : ∃ l, s.size = l := ⟨_, rfl⟩
  have HL := Lib.hid hl
  have HR : Hid (∃ f, Qt.rd f (s.data.toList.drop 1) 1 [] = (t.data.toList, n, e) ∧ l - 1 < f) := Lib.hid ⟨s.size, hr, by omega⟩
  rw [hl] at h0 hs
  clear hi hz0 hz1 hz2 hr
  go_enter Tryz.func75, Tryz.ntmps75
  go_wp2
  go_loopw [5, 6] (fun v i wr => ∃ (k m : Nat) (out : List UInt8), i = .int .i64 k ∧ 1 ≤ k ∧ k ≤ l ∧ m ≤ k ∧ Hid (∃ f, Qt.rd f (s.data.toList.drop k) k out = (t.data.toList, n, e) ∧ l - k < f) ∧ Hid (wr.ownsRow w.heap.size 5 1 v m (cu out) ∧ Below w.heap.size w wr)) (fun _ i _ => l - (intOf i).toNat)
  case atStart => exact ⟨1, 0, [], rfl, by omega, by omega, by omega, HR, Lib.hid ⟨⟨rfl, Or.inl ⟨rfl, rfl⟩⟩, Below.refl _ _⟩⟩
  case round =>
    obtain ⟨k, m, out, rfl, hk1, hk, hm, HD, HO⟩ := hrel
    have hsl := HL.out
    have ig0 : (0 : Int) ≤ (k : Int) := by omega
    have hdl : (s.data.toList.drop k).length = l - k := by rw [List.length_drop]; simp [hsl]
    by_cases hkl : k < l
    · have i1 : (k : Int) < (l : Int) := by omega
      have hks : k < s.size := by omega
      by_cases h : s[k] = 34
      · have hc : (s[k].toNat : Int) = 34 := by rw [h]; rfl
        have HV : Hid (out = t.data.toList ∧ (k : Int) + 1 = n ∧ (0 : Int) = e) := Lib.hid (by
          obtain ⟨f, hf, hlt⟩ := HD.out
          obtain ⟨f, rfl⟩ : ∃ g, f = g + 1 := ⟨f - 1, by omega⟩
          rw [Qt.rd, if_pos (by rw [drop_cons s k hks, h]; rfl)] at hf
          simp only [Prod.mk.injEq] at hf
          exact ⟨hf.1, by omega, hf.2.2⟩)
        have hcv := conv_own (W := wr) (base := w.heap.size) (n := m) (t := t) (by rw [← HV.out.1]; exact HO.out.1)
        have i2 : ((k : Int) == (l : Int)) = false := by rw [beq_eq_false_iff_ne]; omega
        clear h hdl hsl
        go_wp2
        go_ret3
        exact ⟨ret_rd rfl HV.out.2.1 HV.out.2.2, HO.out.2⟩
      · have hc := u8_ne h 34 rfl
        obtain ⟨u, hu⟩ : ∃ u, s.extract k l = u := ⟨_, rfl⟩
        have hud : u.data.toList = s.data.toList.drop k := by
          rw [← hu, ByteArray.data_extract, Array.toList_extract, List.extract_eq_take_drop]
          exact List.take_of_length_le (by omega)
        have hus : u.size = l - k := by rw [size_of hud, hdl]
        have hu0 : 0 < u.size := by omega
        have hu34 : ¬ u[0] = 34 := by
          have h1 := list_of u hu0
          rw [hud, drop_cons s k hks] at h1
          have := (List.cons.inj h1).1
          rw [← this]; exact h
        obtain ⟨b, hb⟩ : ∃ b, (Qt.one u.data.toList).1 = b := ⟨_, rfl⟩
        obtain ⟨j, hj⟩ : ∃ j, (Qt.one u.data.toList).2.1 = j := ⟨_, rfl⟩
        have hole := Qt.one_le u.data.toList
        have hul : u.data.toList.length = l - k := by rw [hud, hdl]
        rw [hj, hul] at hole
        have hne : (s.data.toList.drop k).head? ≠ some 34 := by
          rw [drop_cons s k hks]; simpa using h
        cases hok : (Qt.one u.data.toList).2.2 with
        | true =>
          have ho : Qt.one u.data.toList = (b, j, true) := by rw [← hb, ← hj, ← hok]
          have HU := Lib.hid (And.intro hu0 (And.intro hu34 ho))
          have hj1 := hole.2 hok
          have hj2 := hole.1
          have HD2 : Hid (∃ f, Qt.rd f (s.data.toList.drop (k + j)) (k + j) (out ++ [b]) = (t.data.toList, n, e) ∧ l - (k + j) < f) := Lib.hid (by
            obtain ⟨f, hf, hlt⟩ := HD.out
            obtain ⟨f, rfl⟩ : ∃ g, f = g + 1 := ⟨f - 1, by omega⟩
            rw [Qt.rd, if_neg hne, ← hud, ho] at hf
            simp only [if_true] at hf
            rw [hud, List.drop_drop] at hf
            exact ⟨f, hf, by omega⟩)
          have hus2 : u.size ≤ 1000000 := by omega
          clear hok ho hu34 hud hus hul hole hj hb h hdl hsl hne HD
          go_wp2_with (first
            | (go_at_call 96; refine (rs_any u HU.out.1 hus2 HU.out.2.1 b j true HU.out.2.2 0 rfl _).mono ?_; rintro en w' ⟨rfl, rfl⟩)
            | (at_builtin; refine wpList_append_own _ rfl _ _ 56 rfl w.heap.size 5 i0 (.int .u8 0) 1 1 Tryz.underlying56 HI.out HI0.out HI1.out HI2.out rfl (by decide) _ _ _ rfl (HO.out.1.alloc _) ⟨wr.heap.size, 0, none⟩ 1 1 [.int .u8 b.toNat] rfl rfl ?c1 ?c2 ?c3 ?c4 ?c5 ?_))
          case c1 => exact one_new _ _ _
          case c2 => exact one_u8 _
          case c3 => unfold maxLen; omega
          case c4 => omega
          case c5 => have := HO.out.2.size; simp; omega
          intro v' w1 hown hgrow _
          have HO2 : Hid (w1.ownsRow w.heap.size 5 1 v' (m + 1) (cu (out ++ [b])) ∧ Below w.heap.size w w1) := Lib.hid (by
            rw [cu_append]
            have hs := HO.out.2.size
            exact ⟨hown, (HO.out.2.alloc hs _).grown hgrow (by simp; omega) (fun q hq => (HO.out.1.lt q hq).1)⟩)
          clear hown hgrow
          go_wp2
          go_roundw
          case rel => exact ⟨k + j, m + 1, out ++ [b], by go_num, by omega, by omega, by omega, HD2, HO2⟩
          case measure => simp [intOf]; omega
        | false =>
          have ho : Qt.one u.data.toList = (b, j, false) := by rw [← hb, ← hj, ← hok]
          have HU := Lib.hid (And.intro hu0 (And.intro hu34 ho))
          have HV : Hid ((⟨#[]⟩ : ByteArray) = t ∧ (k : Int) + j = n ∧ (if l - k = j then 3 else 2) = e) := Lib.hid (by
            obtain ⟨f, hf, hlt⟩ := HD.out
            obtain ⟨f, rfl⟩ : ∃ g, f = g + 1 := ⟨f - 1, by omega⟩
            rw [Qt.rd, if_neg hne, ← hud, ho, hul] at hf
            simp only [Bool.false_eq_true, if_false, Prod.mk.injEq] at hf
            exact ⟨text_ext hf.1, by omega, hf.2.2⟩)
          have he1 : Hid (e = if false = true then 0 else if u.size = j then 3 else 2) := Lib.hid (by rw [← HV.out.2.2, hus]; rfl)
          have he2 : (e != 0) = true := by rw [← HV.out.2.2]; split <;> decide
          have hj2 := hole.1
          have hus2 : u.size ≤ 1000000 := by omega
          clear hok ho hu34 hud hus hul hole hj hb h hdl hsl hne HD
          go_wp2_with (go_at_call 96; refine (rs_any u HU.out.1 hus2 HU.out.2.1 b j false HU.out.2.2 e he1.out _).mono ?_; rintro en w' ⟨rfl, rfl⟩)
          go_ret3
          exact ⟨ret_rd HV.out.1 HV.out.2.1 rfl, HO.out.2⟩
    · have i1 : ¬ (k : Int) < (l : Int) := by omega
      obtain rfl : k = l := by omega
      have HV : Hid ((⟨#[]⟩ : ByteArray) = t ∧ (k : Int) = n ∧ (3 : Int) = e) := Lib.hid (by
        obtain ⟨f, hf, hlt⟩ := HD.out
        obtain ⟨f, rfl⟩ : ∃ g, f = g + 1 := ⟨f - 1, by omega⟩
        rw [drop_end s k (by omega)] at hf
        simp [Qt.rd, Qt.one] at hf
        exact ⟨text_ext (by rw [hf.1]), by omega, hf.2.2⟩)
      clear hdl hsl
      go_wp2
      go_ret3
      exact ⟨ret_rd HV.out.1 HV.out.2.1 HV.out.2.2, HO.out.2⟩
theorem read_any (s t : ByteArray) (n : Nat) (e : Int) (hs : s.size ≤ 4000) (hr : Qt.read s.data.toList = (t.data.toList, n, e)) (w : World) :
    Calls Tryz.prog 75 #[.string s] w fun en w' => en = .returned (.tuple #[.string t, .int .i64 n, .int .i64 e]) ∧ Below w.heap.size w w' := by
  by_cases h0 : 0 < s.size
  · have hl := list_of s h0
    have hd : (s.data.toList.drop 1).length + 1 = s.size := by rw [List.length_drop]; simp; omega
    rw [hl] at hr
    by_cases h : s[0] = 34
    · simp only [Qt.read, h, if_true] at hr
      rw [hd] at hr
      exact read_yes s t n e h0 hs (by rw [h]; rfl) hr w
    · simp only [Qt.read, h, if_false, Prod.mk.injEq] at hr
      obtain ⟨h1, rfl, rfl⟩ := hr
      obtain rfl : t = ⟨#[]⟩ := text_ext h1.symm
      exact read_no s h0 (by omega) (u8_ne h _ rfl) w
  · have hsz : s.data.toList.length = s.size := by simp
    have hs0 : s = ⟨#[]⟩ := text_ext (List.eq_nil_of_length_eq_zero (by omega))
    rw [hs0] at hr
    simp only [Qt.read, Prod.mk.injEq] at hr
    obtain ⟨h1, rfl, rfl⟩ := hr
    obtain rfl : t = ⟨#[]⟩ := text_ext h1.symm
    exact read_0 s hs0 w
theorem ret_wh {t u : ByteArray} {a b : Int} (h1 : t = u) (h2 : a = b) : Ending.returned (.tuple #[.string t, .int .i64 a]) = .returned (.tuple #[.string u, .int .i64 b]) := by rw [h1, h2]
theorem whole_any (s t : ByteArray) (e : Int) (hs : s.size ≤ 4000) (hr : Qt.whole s.data.toList = (t.data.toList, e)) (w : World) :
    Calls Tryz.prog 60 #[.string s] w fun en w' => en = .returned (.tuple #[.string t, .int .i64 e]) ∧ Below w.heap.size w w' := by
  obtain ⟨t1, ht1⟩ := text_mk (Qt.read s.data.toList).1
  obtain ⟨n, hn⟩ : ∃ n, (Qt.read s.data.toList).2.1 = n := ⟨_, rfl⟩
  obtain ⟨e1, he1⟩ : ∃ e1, (Qt.read s.data.toList).2.2 = e1 := ⟨_, rfl⟩
  have hq : Qt.read s.data.toList = (t1.data.toList, n, e1) := by rw [ht1, ← hn, ← he1]
  have herr := Qt.read_err s.data.toList
  have hsl : s.data.toList.length = s.size := by simp
  have HQ := Lib.hid hq
  unfold Qt.whole at hr
  rw [hq] at hr herr
  simp only [hsl] at hr herr
  have hnl := herr.1
  by_cases h1 : e1 = 0
  · subst h1
    by_cases h2 : n < s.size
    · have HV : Hid ((⟨#[]⟩ : ByteArray) = t ∧ (2 : Int) = e) := Lib.hid (by
        rw [if_pos ⟨rfl, h2⟩] at hr
        simp only [Prod.mk.injEq] at hr
        exact ⟨text_ext hr.1, hr.2⟩)
      have i1 : (n : Int) < (s.size : Int) := by omega
      clear hr herr hsl hq hn he1 ht1
      go_enter Tryz.func60, Tryz.ntmps60
      go_wp2_with (go_at_call 75; refine (read_any s t1 n 0 hs HQ.out _).mono ?_; rintro en w1 ⟨rfl, hb⟩)
      go_ret2
      exact ⟨ret_wh HV.out.1 HV.out.2, hb⟩
    · have HV : Hid (t1 = t ∧ (0 : Int) = e) := Lib.hid (by
        rw [if_neg (by omega)] at hr
        simp only [Prod.mk.injEq] at hr
        exact ⟨text_ext hr.1, hr.2⟩)
      have i1 : ¬ (n : Int) < (s.size : Int) := by omega
      clear hr herr hsl hq hn he1 ht1
      go_enter Tryz.func60, Tryz.ntmps60
      go_wp2_with (go_at_call 75; refine (read_any s t1 n 0 hs HQ.out _).mono ?_; rintro en w1 ⟨rfl, hb⟩)
      go_ret2
      exact ⟨ret_wh HV.out.1 HV.out.2, hb⟩
  · have HV : Hid ((⟨#[]⟩ : ByteArray) = t ∧ e1 = e) := Lib.hid (by
      rw [if_neg (by omega)] at hr
      simp only [Prod.mk.injEq] at hr
      rcases herr.2 with h | h
      · exact absurd h h1
      · exact ⟨text_ext (by rw [← hr.1, h.1]), hr.2⟩)
    have i1 : (e1 != 0) = true := by simpa using h1
    clear hr herr hsl hq hn he1 ht1 h1
    go_enter Tryz.func60, Tryz.ntmps60
    go_wp2_with (go_at_call 75; refine (read_any s t1 n e1 hs HQ.out _).mono ?_; rintro en w1 ⟨rfl, hb⟩)
    go_ret2
    exact ⟨ret_wh HV.out.1 HV.out.2, hb⟩
end Go.Proofs.YtfhhkmjjifbfeaaGreatDoor
