/- Lex: words read and compared. -/
import Derived.Test.YtopiiehdgknmgaaDoorLx9
import Derived.Test.YtopiiehdgknmgaaDoorClass
namespace Go.Proofs.YtopiiehdgknmgaaDoor
open Go.ChangeShapes Go.WideShapes Go.ChangeAt Go.RowKit
set_option linter.unusedSimpArgs false
set_option linter.unusedVariables false

theorem cut_90 (s t : ByteArray) (hs : s.size ≤ maxLen) (ht : cutT s 90 = t) (w : World) :
    Calls Tryd.prog 6 #[.string s, .int .i64 90] w fun e w' => e = .returned (.string t) ∧ w = w' := cut_any s t 90 (by decide) hs ht w
/-- Words that stand at the head of a block, if there are any. -/
def WR (w : World) (r : Option Addr) (L : List (List UInt8 × Bool × Nat)) : Prop := L = [] ∨ ∃ g, r = some ⟨g, 0, none⟩ ∧ g < w.heap.size ∧ ∀ (j : Nat) (t : List UInt8) (q : Bool) (p : Nat), L[j]? = some (t, q, p) → w.cell? ⟨g, j * 3, none⟩ = some (.string (mkT t)) ∧ w.cell? ⟨g, j * 3 + 1, none⟩ = some (.bool q) ∧ w.cell? ⟨g, j * 3 + 2, none⟩ = some (.int .i64 (p : Int))
theorem WR.below {w w' : World} {r : Option Addr} {L : List (List UInt8 × Bool × Nat)} (h : WR w r L) (k : Below w.heap.size w w') : WR w' r L := by
  rcases h with h | ⟨g, h1, h2, h3⟩
  · exact Or.inl h
  · refine Or.inr ⟨g, h1, Nat.lt_of_lt_of_le h2 k.size, fun j t q p hj => ?_⟩
    obtain ⟨c0, c1, c2⟩ := h3 j t q p hj
    exact ⟨(k.cell (p := ⟨g, j * 3, none⟩) h2).trans c0, (k.cell (p := ⟨g, j * 3 + 1, none⟩) h2).trans c1, (k.cell (p := ⟨g, j * 3 + 2, none⟩) h2).trans c2⟩
theorem WR.drew {w : World} {r : Option Addr} {L : List (List UInt8 × Bool × Nat)} (h : WR w r L) : WR w.drew r L := h
theorem WR.row {w : World} {r : Option Addr} {L : List (List UInt8 × Bool × Nat)} (h : WR w r L) {j : Nat} {x : List UInt8 × Bool × Nat} (hj : L[j]? = some x) : ∃ g, r = some ⟨g, 0, none⟩ ∧ g < w.heap.size := by
  rcases h with h | ⟨g, h1, h2, h3⟩
  · subst h; simp at hj
  · exact ⟨g, h1, h2⟩
theorem WR.cells {w : World} {g : Nat} {L : List (List UInt8 × Bool × Nat)} (h : WR w (some ⟨g, 0, none⟩) L) {j : Nat} {t : List UInt8} {q : Bool} {p : Nat} (hj : L[j]? = some (t, q, p)) : w.cell? ⟨g, j * 3, none⟩ = some (.string (mkT t)) ∧ w.cell? ⟨g, j * 3 + 1, none⟩ = some (.bool q) ∧ w.cell? ⟨g, j * 3 + 2, none⟩ = some (.int .i64 (p : Int)) := by
  rcases h with h | ⟨g2, h1, h2, h3⟩
  · subst h; simp at hj
  · injection h1 with h1; injection h1 with h1; subst h1
    exact h3 j t q p hj
theorem wcs_get : ∀ (L : List (List UInt8 × Bool × Nat)) (j : Nat) (t : List UInt8) (q : Bool) (p : Nat), L[j]? = some (t, q, p) → (wcs L)[j * 3]? = some (.string (mkT t)) ∧ (wcs L)[j * 3 + 1]? = some (.bool q) ∧ (wcs L)[j * 3 + 2]? = some (.int .i64 (p : Int))
  | [], _, _, _, _, h => by simp at h
  | a :: r, 0, t, q, p, h => by
    simp at h; subst h
    exact ⟨rfl, rfl, rfl⟩
  | a :: r, j + 1, t, q, p, h => by
    have ih := wcs_get r j t q p (by simpa using h)
    have e : wcs (a :: r) = wc a ++ wcs r := by simp [wcs]
    have e3 : (wc a).length = 3 := rfl
    rw [e, List.getElem?_append_right (by rw [e3]; omega), List.getElem?_append_right (by rw [e3]; omega), List.getElem?_append_right (by rw [e3]; omega), e3, show (j + 1) * 3 - 3 = j * 3 by omega, show (j + 1) * 3 + 1 - 3 = j * 3 + 1 by omega, show (j + 1) * 3 + 2 - 3 = j * 3 + 2 by omega]
    exact ih
theorem WR.of_rm {w : World} {base n c : Nat} {r : Option Addr} {L : List (List UInt8 × Bool × Nat)} {T : TypeId} (h : RM w base r n c 3 (wcs L) T) (hn : L.length = n) : WR w r L := by
  cases L with
  | nil => exact Or.inl rfl
  | cons a l =>
    obtain ⟨g, h1, h2, h3⟩ := h.row (by simp at hn; omega)
    exact Or.inr ⟨g, h1, h3.lt, fun j t q p hj => by
      obtain ⟨e0, e1, e2⟩ := wcs_get _ j t q p hj
      exact ⟨h3.cell e0, h3.cell e1, h3.cell e2⟩⟩
theorem lx_words (s : ByteArray) (t : List UInt8) (hs : s.size ≤ 1200) (ht : s.data.toList = t) (L : List (List UInt8 × Bool × Nat)) (n p : Nat) (e : Int) (hr : Lx.words t = (L, p, e)) (hn : L.length = n) (w : World) : Calls Tryd.prog 7 #[.string s] w fun r w' => ∃ a c, r = .returned (.tuple #[.slice a n c, .int .i64 p, .int .i64 e]) ∧ WR w' a L ∧ Below w.heap.size w w' := by
  subst hn
  unfold Lx.words at hr
  by_cases h : t = []
  · rw [if_pos h] at hr
    obtain rfl : s = ⟨#[]⟩ := eqT (by rw [ht, h])
    injection hr with h1 h2
    injection h2 with h2 h3
    subst h1 h2 h3
    refine (lx_words_none w).mono ?_
    rintro r W ⟨a, c, rfl, hb⟩
    exact ⟨a, c, rfl, Or.inl rfl, hb⟩
  · rw [if_neg h] at hr
    refine (lx_words_some s t (by
      rcases Nat.eq_zero_or_pos s.size with h0 | h0
      · exfalso; apply h; rw [← ht]; have : s.data.toList.length = 0 := by simpa using h0
        exact List.length_eq_zero_iff.1 this
      · exact h0) hs ht L p e hr w).mono ?_
    rintro r W ⟨a, c, rfl, hm, hb⟩
    exact ⟨a, c, rfl, WR.of_rm hm rfl, hb⟩
theorem rx_words (s : ByteArray) (t : List UInt8) (hs : s.size ≤ 1200) (ht : s.data.toList = t) (L : List (List UInt8 × Bool × Nat)) (n p : Nat) (e : Int) (hr : Lx.words t = (L, p, e)) (hn : L.length = n) (w : World) : Calls Tryd.prog 8 #[.string s] w fun r w' => ∃ a c, r = .returned (.tuple #[.slice a n c, .int .i64 p, .int .i64 e]) ∧ WR w' a L ∧ Below w.heap.size w w' := by
  subst hn
  unfold Lx.words at hr
  by_cases h : t = []
  · rw [if_pos h] at hr
    obtain rfl : s = ⟨#[]⟩ := eqT (by rw [ht, h])
    injection hr with h1 h2
    injection h2 with h2 h3
    subst h1 h2 h3
    refine (rx_words_none w).mono ?_
    rintro r W ⟨a, c, rfl, hb⟩
    exact ⟨a, c, rfl, Or.inl rfl, hb⟩
  · rw [if_neg h] at hr
    refine (rx_words_some s t (by
      rcases Nat.eq_zero_or_pos s.size with h0 | h0
      · exfalso; apply h; rw [← ht]; have : s.data.toList.length = 0 := by simpa using h0
        exact List.length_eq_zero_iff.1 this
      · exact h0) hs ht L p e hr w).mono ?_
    rintro r W ⟨a, c, rfl, hm, hb⟩
    exact ⟨a, c, rfl, WR.of_rm hm rfl, hb⟩
set_option maxRecDepth 20000 in
set_option maxHeartbeats 8000000 in
theorem lx_same (L : List (List UInt8 × Bool × Nat)) (n : Nat) (hn : L.length = n) (hn1 : n ≤ 100000) (r1 r2 : Option Addr) (c1 c2 : Nat) (w : World) (h1 : WR w r1 L) (h2 : WR w r2 L) : Calls Tryd.prog 9 #[.slice r1 n c1, .slice r2 n c2] w fun e w' => e = .returned (.bool true) ∧ Below w.heap.size w w' := by
  have HB : Hid (WR w r1 L ∧ WR w r2 L ∧ Below w.heap.size w w) := Lib.hid ⟨h1, h2, Below.refl _ _⟩
  have HN := Lib.hid hn
  clear h1 h2 hn
  go_enter Tryd.func9, Tryd.ntmps9
  go_wp2_with fail
  go_loopw [5] (fun iv wr => ∃ k : Nat, iv = .int .i64 k ∧ k ≤ n ∧ Hid (WR wr r1 L ∧ WR wr r2 L ∧ Below w.heap.size w wr)) (fun iv _ => n - (intOf iv).toNat)
  case atStart => exact ⟨0, rfl, by omega, HB⟩
  case round =>
    clear HB
    obtain ⟨k, rfl, hk, HB⟩ := hrel
    have k0 : (0 : Int) ≤ (k : Int) := by omega
    by_cases hkn : k < n
    · have kI : (k : Int) < (n : Int) := by omega
      have w1 : IntKind.i64.wrap ((k : Int) + 1) = (k : Int) + 1 := IntWalk.i64_in _ (by omega)
      obtain ⟨⟨t, q, p⟩, hx⟩ : ∃ x, L[k]? = some x := ⟨_, List.getElem?_eq_getElem (by rw [HN.out]; exact hkn)⟩
      obtain ⟨g1, rfl, _⟩ := HB.out.1.row hx
      obtain ⟨g2, rfl, _⟩ := HB.out.2.1.row hx
      obtain ⟨X, hX⟩ : ∃ X, mkT t = X := ⟨_, rfl⟩
      have HX : Hid (L[k]? = some (t, q, p) ∧ mkT t = X) := Lib.hid ⟨hx, hX⟩
      clear hx hX
      go_wp2_with fail
      refine wp_region_class (fun w' => WR w' (some ⟨g1, 0, none⟩) L ∧ WR w' (some ⟨g2, 0, none⟩) L ∧ Below w.heap.size w w') (by kernel_rfl) (by kernel_rfl) ⟨HB.out.1.drew, HB.out.2.1.drew, HB.out.2.2.drew⟩ ?_
      repeat (first
          | go_big_quiet_skip
          | (go_big_quiet_want
             unfold Oper.quiet
             apply Exists.intro
             refine ⟨fun wq hwq => ?_, ?_⟩
             · (obtain ⟨hq1, hq2, hq3⟩ := hwq
                obtain ⟨d1, d2, d3⟩ := hq1.cells HX.out.1
                obtain ⟨e1, e2, e3⟩ := hq2.cells HX.out.1
                rw [HX.out.2] at d1 e1
                unfold Oper.quietAt
                go_simp
                first
                  | exact ⟨rfl, hq1, hq2, hq3⟩
                  | exact rfl)
             simp only [Act.put, List.setIfInBounds_toArray, List.set_cons_zero, List.set_cons_succ]
             go_big_quiet_on))
      refine wpQuiet_nil ?_
      intro w4 hw4
      have HB4 := Lib.hid hw4
      clear hw4 HB
      go_wp2
      refine ⟨?_, ?measure⟩
      case measure => simp [intOf]; omega
      first
        | exact ⟨k + 1, by go_num, by omega, HB4⟩
        | ((repeat apply Exists.intro); exact ⟨⟨k + 1, by go_num, by omega, HB4⟩, rfl⟩)
    · have kI : ¬ (k : Int) < (n : Int) := by omega
      go_wp2
      go_ret
      exact ⟨rfl, HB.out.2.2⟩
end Go.Proofs.YtopiiehdgknmgaaDoor
