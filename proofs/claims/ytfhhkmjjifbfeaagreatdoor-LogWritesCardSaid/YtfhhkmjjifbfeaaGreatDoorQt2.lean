/- Contracts of texts in quotes (package quote), second half: readSign, Quote. -/
import Derived.Test.YtfhhkmjjifbfeaaGreatDoorQt
import Derived.Test.YtfhhkmjjifbfeaaGreatDoorRw
namespace Go.Proofs.YtfhhkmjjifbfeaaGreatDoor
open Go.ChangeShapes Go.WideShapes Go.ChangeAt Go.RowKit
set_option linter.unusedSimpArgs false
set_option linter.unusedVariables false

theorem info5 : (Tryz.prog.info? 5).map (fun i => (i.zero, i.size, i.bytes)) = some (some (.int .u8 0), 1, 1) := by kernel_rfl
/-- Bytes as cells. -/
def cu (l : List UInt8) : List Value := l.map fun b => Value.int .u8 (b.toNat : Int)
theorem cu_length (l : List UInt8) : (cu l).length = l.length := by unfold cu; simp
theorem cu_append (l m : List UInt8) : cu (l ++ m) = cu l ++ cu m := by unfold cu; simp
theorem cu_bv (t : ByteArray) : bv t = cu t.data.toList := rfl
theorem cu_bc (t : ByteArray) : byteCells t = cu t.data.toList := rfl
theorem one_u8 (v : Int) : ∀ u ∈ [Value.int .u8 v], u.oneCell' = true := by intro u hu; simp at hu; subst hu; rfl
theorem one_new (w : World) (v : Value) (T : TypeId) (j : Nat) (u : Value) (hj : [v][j]? = some u) : (w.alloc (.cells #[v] T)).cell? ((⟨w.heap.size, 0, none⟩ : Addr).add j) = some u := by
  have h := Blk.newA w #[v] T
  cases j with
  | zero => simp at hj; subst hj; exact h.cell (i := 0) rfl
  | succ j => simp at hj
theorem conv_rw (W : World) (g m cap : Nat) (t : ByteArray) (h : Rw W g cap (cu t.data.toList) 5) (hm : t.size = m) :
    (convert 56 9 (.slice (some ⟨g, 0, none⟩) m cap)).run Tryz.prog W = .ok (.string t) W := by
  obtain ⟨r, h1, h2, h3⟩ := h
  exact conv_blk W g m cap t _ r h3 hm
theorem rdig_any (s : ByteArray) (h2 : 2 ≤ s.size) (hs : s.size ≤ 1000000) (b : UInt8) (n : Nat) (ok : Bool) (hd : Qt.digs (s.data.toList.drop 2) = (b, n, ok)) (e : Int) (he : e = if ok = true then 0 else if s.size = n then 3 else 2) (w : World) :
    Calls Tryz.prog 105 #[.string s] w fun en w' => en = .returned (.tuple #[.int .u8 b.toNat, .int .i64 n, .int .i64 e]) ∧ w = w' := by
  by_cases h3 : 2 < s.size
  · rw [drop_cons s 2 h3] at hd
    unfold Qt.digs at hd
    cases hv : Qt.val s[2] with
    | none =>
      simp only [hv, Prod.mk.injEq] at hd
      obtain ⟨rfl, rfl, rfl⟩ := hd
      obtain rfl : e = 2 := by rw [he]; simp; omega
      exact rdig_2n s h3 hs hv w
    | some x =>
      simp only [hv] at hd
      by_cases h4 : 3 < s.size
      · rw [drop_cons s 3 h4] at hd
        cases hw : Qt.val s[3] with
        | none =>
          simp only [hw, Prod.mk.injEq] at hd
          obtain ⟨rfl, rfl, rfl⟩ := hd
          obtain rfl : e = 2 := by rw [he]; simp; omega
          exact rdig_3n s h4 hs x hv hw w
        | some y =>
          simp only [hw, Prod.mk.injEq] at hd
          obtain ⟨rfl, rfl, rfl⟩ := hd
          obtain rfl : e = 0 := by rw [he]; simp
          have hx := val_le hv
          have hy := val_le hw
          have e1 : ((UInt8.ofNat (16 * x + y)).toNat : Int) = 16 * (x : Int) + y := by
            rw [UInt8.toNat_ofNat']; omega
          rw [e1]
          exact rdig_4 s h4 hs x y hv hw w
      · rw [drop_end s 3 (by omega)] at hd
        simp only [Prod.mk.injEq] at hd
        obtain ⟨rfl, rfl, rfl⟩ := hd
        obtain rfl : e = 3 := by rw [he]; simp; omega
        exact rdig_3 s (by omega) x hv w
  · rw [drop_end s 2 (by omega)] at hd
    simp only [Qt.digs, Prod.mk.injEq] at hd
    obtain ⟨rfl, rfl, rfl⟩ := hd
    obtain rfl : e = 3 := by rw [he]; simp; omega
    exact rdig_2 s (by omega) w
theorem rs_ctrl (s : ByteArray) (h1 : 0 < s.size) (hs : s.size ≤ 1000000) (hp : decide (32 ≤ (s[0].toNat : Int) ∧ (s[0].toNat : Int) ≤ 126) = false) (w : World) :
    Calls Tryz.prog 96 #[.string s] w fun en w' => en = .returned (.tuple #[.int .u8 0, .int .i64 0, .int .i64 2]) ∧ w = w' := by
  have HP := Lib.hid hp
  clear hp
  go_enter Tryz.func96, Tryz.ntmps96
  go_wp2_with (go_at_call 55; refine (printed_any _ false HP.out _).mono ?_; rintro e w' ⟨rfl, rfl⟩)
  go_ret3
  exact ⟨rfl, rfl⟩
theorem rs_plain (s : ByteArray) (h1 : 0 < s.size) (hs : s.size ≤ 1000000) (hp : decide (32 ≤ (s[0].toNat : Int) ∧ (s[0].toNat : Int) ≤ 126) = true) (h92 : ((s[0].toNat : Int) == 92) = false) (w : World) :
    Calls Tryz.prog 96 #[.string s] w fun en w' => en = .returned (.tuple #[.int .u8 s[0].toNat, .int .i64 1, .int .i64 0]) ∧ w = w' := by
  have HP := Lib.hid hp
  clear hp
  go_enter Tryz.func96, Tryz.ntmps96
  go_wp2_with (go_at_call 55; refine (printed_any _ true HP.out _).mono ?_; rintro e w' ⟨rfl, rfl⟩)
  go_ret3
  exact ⟨rfl, rfl⟩
theorem rs_one (s : ByteArray) (h1 : s.size = 1) (h0 : 0 < s.size) (h92 : (s[0].toNat : Int) = 92) (w : World) :
    Calls Tryz.prog 96 #[.string s] w fun en w' => en = .returned (.tuple #[.int .u8 0, .int .i64 1, .int .i64 3]) ∧ w = w' := by
  go_enter Tryz.func96, Tryz.ntmps96
  go_wp2_with (go_at_call 55; refine (printed_any _ true (by decide) _).mono ?_; rintro e w' ⟨rfl, rfl⟩)
  go_ret3
  exact ⟨rfl, rfl⟩
theorem rs_esc (s : ByteArray) (h0 : 0 < s.size) (h1 : 1 < s.size) (hs : s.size ≤ 1000000) (h92 : (s[0].toNat : Int) = 92) (b : Int) (hd : (s[1].toNat : Int) = 34 ∧ b = 34 ∨ (s[1].toNat : Int) = 92 ∧ b = 92 ∨ (s[1].toNat : Int) = 110 ∧ b = 10 ∨ (s[1].toNat : Int) = 114 ∧ b = 13 ∨ (s[1].toNat : Int) = 116 ∧ b = 9) (w : World) :
    Calls Tryz.prog 96 #[.string s] w fun en w' => en = .returned (.tuple #[.int .u8 b, .int .i64 2, .int .i64 0]) ∧ w = w' := by
  rcases hd with ⟨hd, rfl⟩ | ⟨hd, rfl⟩ | ⟨hd, rfl⟩ | ⟨hd, rfl⟩ | ⟨hd, rfl⟩
  all_goals
    go_enter Tryz.func96, Tryz.ntmps96
    go_wp2_with (go_at_call 55; refine (printed_any _ true (by decide) _).mono ?_; rintro e w' ⟨rfl, rfl⟩)
    go_ret3
    exact ⟨rfl, rfl⟩
theorem rs_hex (s : ByteArray) (h0 : 0 < s.size) (h1 : 1 < s.size) (hs : s.size ≤ 1000000) (h92 : (s[0].toNat : Int) = 92) (h120 : (s[1].toNat : Int) = 120) (b : UInt8) (n : Nat) (ok : Bool) (hd : Qt.digs (s.data.toList.drop 2) = (b, n, ok)) (e : Int) (he : e = if ok = true then 0 else if s.size = n then 3 else 2) (w : World) :
    Calls Tryz.prog 96 #[.string s] w fun en w' => en = .returned (.tuple #[.int .u8 b.toNat, .int .i64 n, .int .i64 e]) ∧ w = w' := by
  have HD := Lib.hid (And.intro hd he)
  clear hd he
  go_enter Tryz.func96, Tryz.ntmps96
  go_wp2_with (first | (go_at_call 55; refine (printed_any _ true (by decide) _).mono ?_; rintro e w' ⟨rfl, rfl⟩) | (go_at_call 105; refine (rdig_any s (by omega) hs b n ok HD.out.1 e HD.out.2 _).mono ?_; rintro e w' ⟨rfl, rfl⟩))
  go_ret3
  exact ⟨rfl, rfl⟩
theorem rs_no (s : ByteArray) (h0 : 0 < s.size) (h1 : 1 < s.size) (hs : s.size ≤ 1000000) (h92 : (s[0].toNat : Int) = 92) (k1 : ((s[1].toNat : Int) == 34) = false) (k2 : ((s[1].toNat : Int) == 92) = false) (k3 : ((s[1].toNat : Int) == 110) = false) (k4 : ((s[1].toNat : Int) == 114) = false) (k5 : ((s[1].toNat : Int) == 116) = false) (k6 : ((s[1].toNat : Int) == 120) = false) (w : World) :
    Calls Tryz.prog 96 #[.string s] w fun en w' => en = .returned (.tuple #[.int .u8 0, .int .i64 1, .int .i64 2]) ∧ w = w' := by
  go_enter Tryz.func96, Tryz.ntmps96
  go_wp2_with (go_at_call 55; refine (printed_any _ true (by decide) _).mono ?_; rintro e w' ⟨rfl, rfl⟩)
  go_ret3
  exact ⟨rfl, rfl⟩
theorem u8_ne {c d : UInt8} (h : ¬ c = d) (k : Int) (hk : (d.toNat : Int) = k) : ((c.toNat : Int) == k) = false := by
  rw [beq_eq_false_iff_ne]; exact fun e => h (u8_eq (e.trans hk.symm))
theorem esc_some {d b : UInt8} (h : Qt.esc d = some b) : (d.toNat : Int) = 34 ∧ (b.toNat : Int) = 34 ∨ (d.toNat : Int) = 92 ∧ (b.toNat : Int) = 92 ∨ (d.toNat : Int) = 110 ∧ (b.toNat : Int) = 10 ∨ (d.toNat : Int) = 114 ∧ (b.toNat : Int) = 13 ∨ (d.toNat : Int) = 116 ∧ (b.toNat : Int) = 9 := by
  unfold Qt.esc at h
  split at h
  · cases h; subst d; decide
  · split at h
    · cases h; subst d; decide
    · split at h
      · cases h; subst d; decide
      · split at h
        · cases h; subst d; decide
        · split at h
          · cases h; subst d; decide
          · cases h
theorem esc_none {d : UInt8} (h : Qt.esc d = none) : ¬ d = 34 ∧ ¬ d = 92 ∧ ¬ d = 110 ∧ ¬ d = 114 ∧ ¬ d = 116 := by
  refine ⟨?_, ?_, ?_, ?_, ?_⟩ <;> (rintro rfl; revert h; decide)
theorem list_of (s : ByteArray) (h : 0 < s.size) : s.data.toList = s[0] :: s.data.toList.drop 1 := by
  have := drop_cons s 0 h
  rwa [List.drop_zero] at this
theorem rs_any (s : ByteArray) (h0 : 0 < s.size) (hs : s.size ≤ 1000000) (h34 : ¬ s[0] = 34) (b : UInt8) (n : Nat) (ok : Bool) (ho : Qt.one s.data.toList = (b, n, ok)) (e : Int) (he : e = if ok = true then 0 else if s.size = n then 3 else 2) (w : World) :
    Calls Tryz.prog 96 #[.string s] w fun en w' => en = .returned (.tuple #[.int .u8 b.toNat, .int .i64 n, .int .i64 e]) ∧ w = w' := by
  rw [list_of s h0] at ho
  unfold Qt.one at ho
  simp only at ho
  by_cases g1 : s[0].toNat < 32 ∨ 126 < s[0].toNat ∨ s[0] = 34
  · rw [if_pos g1] at ho
    simp only [Prod.mk.injEq] at ho
    obtain ⟨rfl, rfl, rfl⟩ := ho
    obtain rfl : e = 2 := by rw [he, if_neg (by simp), if_neg (by omega)]
    exact rs_ctrl s h0 hs (by rw [decide_eq_false_iff_not]; intro hh; rcases g1 with g | g | g <;> first | exact absurd g h34 | omega) w
  · rw [if_neg g1] at ho
    simp only [not_or] at g1
    have hp : decide (32 ≤ (s[0].toNat : Int) ∧ (s[0].toNat : Int) ≤ 126) = true := by simp; omega
    by_cases g2 : s[0] = 92
    · have h92 : (s[0].toNat : Int) = 92 := by rw [g2]; rfl
      rw [if_neg (by simpa using g2)] at ho
      by_cases h1 : 1 < s.size
      · rw [drop_cons s 1 h1] at ho
        simp only at ho
        cases hd : Qt.esc s[1] with
        | some x =>
          simp only [hd, Prod.mk.injEq] at ho
          obtain ⟨rfl, rfl, rfl⟩ := ho
          obtain rfl : e = 0 := by rw [he]; simp
          exact rs_esc s h0 h1 hs h92 _ (esc_some hd) w
        | none =>
          simp only [hd] at ho
          by_cases g3 : s[1] = 120
          · rw [if_pos g3] at ho
            exact rs_hex s h0 h1 hs h92 (by rw [g3]; rfl) b n ok ho e he w
          · rw [if_neg g3] at ho
            simp only [Prod.mk.injEq] at ho
            obtain ⟨rfl, rfl, rfl⟩ := ho
            obtain rfl : e = 2 := by rw [he]; simp; omega
            obtain ⟨k1, k2, k3, k4, k5⟩ := esc_none hd
            exact rs_no s h0 h1 hs h92 (u8_ne k1 _ rfl) (u8_ne k2 _ rfl) (u8_ne k3 _ rfl) (u8_ne k4 _ rfl) (u8_ne k5 _ rfl) (u8_ne g3 _ rfl) w
      · rw [drop_end s 1 (by omega)] at ho
        simp only [Prod.mk.injEq] at ho
        obtain ⟨rfl, rfl, rfl⟩ := ho
        obtain rfl : e = 3 := by rw [he]; simp; omega
        exact rs_one s (by omega) h0 h92 w
    · rw [if_pos g2] at ho
      simp only [Prod.mk.injEq] at ho
      obtain ⟨rfl, rfl, rfl⟩ := ho
      obtain rfl : e = 0 := by rw [he]; simp
      exact rs_plain s h0 hs hp (u8_ne g2 _ rfl) w
end Go.Proofs.YtfhhkmjjifbfeaaGreatDoor
