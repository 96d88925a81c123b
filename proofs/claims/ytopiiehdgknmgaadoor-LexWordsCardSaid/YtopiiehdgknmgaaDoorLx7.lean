/- Lex: names, lines. -/
import Derived.Test.YtopiiehdgknmgaaDoorLx5
import Derived.Test.YtopiiehdgknmgaaDoorShelf
namespace Go.Proofs.YtopiiehdgknmgaaDoor
open Go.ChangeShapes Go.WideShapes Go.ChangeAt Go.RowKit
set_option linter.unusedSimpArgs false
set_option linter.unusedVariables false

/-- May the byte stand in a name? -/
def Lx.nb (b : UInt8) : Bool := (decide (97 ≤ b.toNat) && decide (b.toNat ≤ 122)) || (decide (48 ≤ b.toNat) && decide (b.toNat ≤ 57))
/-- Is the text a name? -/
def Lx.name (t : List UInt8) : Bool := match t with
  | [] => false
  | c :: r => decide ((c :: r).length ≤ 16) && decide (97 ≤ c.toNat) && (c :: r).all Lx.nb
set_option maxRecDepth 20000 in
set_option maxHeartbeats 4000000 in
theorem lx_name_go (s : ByteArray) (t : List UInt8) (h0 : 0 < s.size) (h16 : s.size ≤ 16) (ht : s.data.toList = t) (h97 : 97 ≤ s[0].toNat) (r : Bool) (hr : Lx.name t = r) (w : World) : Calls Tryd.prog 22 #[.string s] w fun e w' => e = .returned (.bool r) ∧ Below w.heap.size w w' := by
  have he1 := size_full h0
  have i1 : ¬ (16 : Int) < (s.size : Int) := by omega
  have i0 : (0 : Int) < (s.size : Int) := by omega
  have i2 : ¬ (s[0].toNat : Int) < 97 := by omega
  have hs2 : t = s[0] :: t.drop 1 := by rw [← ht]; exact list_of s h0
  have hl : t.length = s.size := by rw [← ht]; simp
  have HS : Hid (Lx.name t = r ∧ t = s[0] :: t.drop 1) := Lib.hid ⟨hr, hs2⟩
  have HL := Lib.hid (And.intro ht (And.intro hl h97))
  clear hr hs2 ht hl h97
  go_enter Tryd.func22, Tryd.ntmps22
  go_wp2_with fail
  go_loopw [3, 4, 5, 20] (fun _ _ _ i wr => ∃ k : Nat, i = .int .i64 k ∧ k ≤ s.size ∧ Hid (∀ j c, j < k → t[j]? = some c → Lx.nb c = true) ∧ Hid (Below w.heap.size w wr)) (fun _ _ _ i _ => s.size - (intOf i).toNat)
  case atStart => exact ⟨0, rfl, by omega, Lib.hid (fun j c hj => by omega), Lib.hid (Below.refl _ _)⟩
  case round =>
    obtain ⟨k, rfl, hk, HK, HB⟩ := hrel
    have k0 : (0 : Int) ≤ (k : Int) := by omega
    by_cases hks : k < s.size
    · have kI : (k : Int) < (s.size : Int) := by omega
      obtain ⟨b, hb⟩ : ∃ b, s[k] = b := ⟨_, rfl⟩
      have hbl : t[k]? = some b := by rw [← HL.out.1, ← hb, List.getElem?_eq_getElem (by simpa using hks)]; rfl
      obtain ⟨x, hxn⟩ : ∃ x, b.toNat = x := ⟨_, rfl⟩
      have cb : (s[k].toNat : Int) = (x : Int) := by rw [hb, hxn]
      have w1 : IntKind.i64.wrap ((k : Int) + 1) = (k : Int) + 1 := IntWalk.i64_in _ (by omega)
      clear hb
      by_cases a1 : 97 ≤ x
      · have j1 : (97 : Int) ≤ (x : Int) := by omega
        have j3 : (48 : Int) ≤ (x : Int) := by omega
        have j4 : ¬ (x : Int) ≤ 57 := by omega
        by_cases a2 : x ≤ 122
        · have j2 : (x : Int) ≤ 122 := by omega
          have HX : Hid (t[k]? = some b ∧ Lx.nb b = true) := Lib.hid ⟨hbl, by unfold Lx.nb; rw [hxn]; simp; try omega⟩
          clear hbl hxn
          have HK2 : Hid (∀ j c, j < k + 1 → t[j]? = some c → Lx.nb c = true) := Lib.hid (fun j c hj hc => by
            by_cases e : j = k
            · rw [e, HX.out.1] at hc; injection hc with hc; rw [← hc]; exact HX.out.2
            · exact HK.out j c (by omega) hc)
          go_wp2
          refine ⟨?_, ?measure⟩
          case measure => simp [intOf]; omega
          first
            | exact ⟨k + 1, by go_num, by omega, HK2, HB⟩
            | ((repeat apply Exists.intro); exact ⟨⟨k + 1, by go_num, by omega, HK2, HB⟩, rfl⟩)
        · have j2 : ¬ (x : Int) ≤ 122 := by omega
          have HX : Hid (t[k]? = some b ∧ Lx.nb b = false) := Lib.hid ⟨hbl, by unfold Lx.nb; rw [hxn]; simp; try omega⟩
          clear hbl hxn
          have HE : Hid (r = false) := Lib.hid (by rw [← HS.out.1]; unfold Lx.name; rw [HS.out.2]; have hb := HX.out.1; have hnb := HX.out.2; dsimp only; rw [Bool.and_eq_false_iff]; right; rw [List.all_eq_false]; exact ⟨b, by rw [← HS.out.2]; exact List.mem_of_getElem? hb, by rw [hnb]; simp⟩)
          go_wp2
          go_ret
          exact ⟨by rw [HE.out]; rfl, HB.out⟩
      · have j1 : ¬ (97 : Int) ≤ (x : Int) := by omega
        by_cases a3 : 48 ≤ x
        · have j3 : (48 : Int) ≤ (x : Int) := by omega
          by_cases a4 : x ≤ 57
          · have j4 : (x : Int) ≤ 57 := by omega
            have HX : Hid (t[k]? = some b ∧ Lx.nb b = true) := Lib.hid ⟨hbl, by unfold Lx.nb; rw [hxn]; simp; try omega⟩
            clear hbl hxn
            have HK2 : Hid (∀ j c, j < k + 1 → t[j]? = some c → Lx.nb c = true) := Lib.hid (fun j c hj hc => by
              by_cases e : j = k
              · rw [e, HX.out.1] at hc; injection hc with hc; rw [← hc]; exact HX.out.2
              · exact HK.out j c (by omega) hc)
            go_wp2
            refine ⟨?_, ?measure⟩
            case measure => simp [intOf]; omega
            first
              | exact ⟨k + 1, by go_num, by omega, HK2, HB⟩
              | ((repeat apply Exists.intro); exact ⟨⟨k + 1, by go_num, by omega, HK2, HB⟩, rfl⟩)
          · have j4 : ¬ (x : Int) ≤ 57 := by omega
            have HX : Hid (t[k]? = some b ∧ Lx.nb b = false) := Lib.hid ⟨hbl, by unfold Lx.nb; rw [hxn]; simp; try omega⟩
            clear hbl hxn
            have HE : Hid (r = false) := Lib.hid (by rw [← HS.out.1]; unfold Lx.name; rw [HS.out.2]; have hb := HX.out.1; have hnb := HX.out.2; dsimp only; rw [Bool.and_eq_false_iff]; right; rw [List.all_eq_false]; exact ⟨b, by rw [← HS.out.2]; exact List.mem_of_getElem? hb, by rw [hnb]; simp⟩)
            go_wp2
            go_ret
            exact ⟨by rw [HE.out]; rfl, HB.out⟩
        · have j3 : ¬ (48 : Int) ≤ (x : Int) := by omega
          have HX : Hid (t[k]? = some b ∧ Lx.nb b = false) := Lib.hid ⟨hbl, by unfold Lx.nb; rw [hxn]; simp; try omega⟩
          clear hbl hxn
          have HE : Hid (r = false) := Lib.hid (by rw [← HS.out.1]; unfold Lx.name; rw [HS.out.2]; have hb := HX.out.1; have hnb := HX.out.2; dsimp only; rw [Bool.and_eq_false_iff]; right; rw [List.all_eq_false]; exact ⟨b, by rw [← HS.out.2]; exact List.mem_of_getElem? hb, by rw [hnb]; simp⟩)
          go_wp2
          go_ret
          exact ⟨by rw [HE.out]; rfl, HB.out⟩
    · have kI : ¬ (k : Int) < (s.size : Int) := by omega
      have HE : Hid (r = true) := Lib.hid (by
        rw [← HS.out.1]; unfold Lx.name; rw [HS.out.2]
        have hl := HL.out.2.1
        have h97 := HL.out.2.2
        have hh : t.length = (s[0] :: t.drop 1).length := congrArg List.length HS.out.2
        dsimp only
        rw [Bool.and_eq_true, Bool.and_eq_true]
        refine ⟨⟨by rw [← hh]; simp; omega, by simpa using h97⟩, ?_⟩
        rw [← HS.out.2, List.all_eq_true]
        intro c hc
        obtain ⟨j, hj⟩ := List.mem_iff_getElem?.1 hc
        have hjl : j < t.length := by
          rcases Nat.lt_or_ge j t.length with h | h
          · exact h
          · rw [List.getElem?_eq_none h] at hj; cases hj
        exact HK.out j c (by omega) hj)
      go_wp2
      go_ret
      exact ⟨by rw [HE.out]; rfl, HB.out⟩
theorem lx_lines (s : ByteArray) (hs : s.size ≤ 1000000) (m : Int) (w : World) (hm : w.cell? ⟨0, 0, none⟩ = some (.int .i64 m)) : Calls Tryd.prog 13 #[.string s] w fun e w' => e = .returned (.slice (some ⟨w.heap.size, 0, none⟩) (Lib.countB s { data := #[10] } + 1) (Lib.countB s { data := #[10] } + 1)) ∧ w' = w.alloc (.cells ((Lib.splitB { data := #[10] } 0 (Lib.countB s { data := #[10] }) s).map Value.string).toArray 9) := by
  go_enter Tryd.func13, Tryd.ntmps13
  go_wp2_with (go_at_call 23; refine (Tryd.strings_Split s { data := #[10] } m w (by omega) hm (by decide)).mono ?_; rintro e W1 ⟨rfl, rfl⟩)
  go_ret
  exact ⟨rfl, rfl⟩
theorem lv12_wd : Lx.wd [115, 101, 110, 100, 32, 34, 97, 32, 98, 34] 11 0 [] = ([([115, 101, 110, 100], false, 0), ([97, 32, 98], true, 5)], 0, 0) := by decide +kernel
theorem lv12_count : Lib.countB { data := #[97, 10] } { data := #[10] } = 1 := by decide +kernel
theorem lv12_words (w : World) : Calls Tryd.prog 7 #[.string { data := #[115, 101, 110, 100, 32, 34, 97, 32, 98, 34] }] w fun r w' => ∃ g c, r = .returned (.tuple #[.slice (some ⟨g, 0, none⟩) 2 c, .int .i64 0, .int .i64 0]) ∧ (w'.cell? ⟨g, 3, none⟩ = some (.string { data := #[97, 32, 98] }) ∧ w'.cell? ⟨g, 4, none⟩ = some (.bool true) ∧ w'.cell? ⟨g, 5, none⟩ = some (.int .i64 5)) ∧ Below w.heap.size w w' := by
  refine (lx_words_some { data := #[115, 101, 110, 100, 32, 34, 97, 32, 98, 34] } [115, 101, 110, 100, 32, 34, 97, 32, 98, 34] (by decide) (by decide) rfl _ 0 0 lv12_wd w).mono ?_
  rintro e W1 ⟨a, c, rfl, h1, h2⟩
  obtain ⟨g, rfl, _, hr⟩ := h1.row (by decide)
  exact ⟨g, c, rfl, ⟨hr.cell (j := 3) rfl, hr.cell (j := 4) rfl, hr.cell (j := 5) rfl⟩, h2⟩
theorem lv12_name (w : World) : Calls Tryd.prog 22 #[.string { data := #[97, 49] }] w fun e w' => e = .returned (.bool true) ∧ Below w.heap.size w w' := lx_name_go { data := #[97, 49] } [97, 49] (by decide) (by decide) rfl (by decide) true (by decide) w
theorem lv12_lines (m : Int) (w : World) (hm : w.cell? ⟨0, 0, none⟩ = some (.int .i64 m)) : Calls Tryd.prog 13 #[.string { data := #[97, 10] }] w fun e w' => ∃ a, e = .returned (.slice a 2 2) ∧ Below w.heap.size w w' := by
  refine (lx_lines { data := #[97, 10] } (by decide) m w hm).mono ?_
  rintro e W1 ⟨rfl, rfl⟩
  rw [lv12_count]
  exact ⟨_, rfl, (Below.refl _ _).alloc (Nat.le_refl _) _⟩
theorem lx_lives (m : Int) (w : World) (hm : w.cell? ⟨0, 0, none⟩ = some (.int .i64 m)) (h0 : 0 < w.heap.size) : Calls Tryd.prog 12 #[] w fun e w' => e = .returned (.bool true) ∧ Below w.heap.size w w' := by
  have HM := Lib.hid (And.intro hm h0)
  clear hm h0
  go_enter Tryd.func12, Tryd.ntmps12
  go_wp2_with (first
    | (go_at_call 7; with_reducible refine (lv12_words _).mono ?_; rintro e W1 ⟨g, c, rfl, ⟨c3, c4, c5⟩, hb1⟩; have HB := Lib.hid hb1; clear hb1)
    | (go_at_call 22; with_reducible refine (lv12_name _).mono ?_; rintro e W1 ⟨rfl, hb1⟩; replace HB := Lib.hid (HB.out.trans (hb1.mono HB.out.size)); clear hb1)
    | (go_at_call 13; with_reducible refine (lv12_lines m _ ((HB.out.cell (p := ⟨0, 0, none⟩) HM.out.2).trans HM.out.1)).mono ?_; rintro e W1 ⟨a, rfl, hb1⟩; replace HB := Lib.hid (HB.out.trans (hb1.mono HB.out.size)); clear hb1))
  go_ret
  exact ⟨rfl, HB.out⟩
end Go.Proofs.YtopiiehdgknmgaaDoor
