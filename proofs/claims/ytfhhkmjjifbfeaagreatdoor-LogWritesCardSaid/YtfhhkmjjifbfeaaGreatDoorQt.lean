/- Contracts of texts in quotes (package quote): the sign of a byte, and the byte of a sign. -/
import Derived.Test.YtfhhkmjjifbfeaaGreatDoorRows
import Derived.Test.YtfhhkmjjifbfeaaGreatDoorQtMath
import Derived.Test.YtfhhkmjjifbfeaaGreatDoorBytes
import Derived.WalkKit
import Derived.ProofKit
import Derived.OpenShut
import Derived.Handy
import Derived.WalkLawsBesides
import Derived.WalkSpells
import Derived.Lib.Hide
import Derived.RegionTactic
import Derived.ChangeAlike
import Derived.WalkSmall
import Derived.Deep.QuietTactic
import Derived.BigQuiet
import Derived.OwnWalk
import Derived.Outline
import Derived.Lib.AppendStr
import Derived.Lib.SlBytesRow
namespace Go.Proofs.YtfhhkmjjifbfeaaGreatDoor
open Go.ChangeShapes Go.WideShapes Go.ChangeAt Go.RowKit
set_option linter.unusedSimpArgs false
set_option linter.unusedVariables false

theorem text_ext {s t : ByteArray} (h : s.data.toList = t.data.toList) : s = t := by
  cases s; cases t; congr; exact Array.toList_inj.1 h
theorem u8_lt (c : UInt8) : (c.toNat : Int) ≤ 255 := by have := c.toNat_lt; omega
theorem u8_eq {c d : UInt8} (h : (c.toNat : Int) = d.toNat) : c = d := by
  apply UInt8.toNat_inj.1; omega
theorem conv_blk (W : World) (g k cap : Nat) (t : ByteArray) (T : TypeId) (rest : List Value) (h : Blk W g (bv t ++ rest) T) (hk : t.size = k) :
    (convert 56 9 (.slice (some ⟨g, 0, none⟩) k cap)).run Tryz.prog W = .ok (.string t) W := by
  have hb : Lib.Bytes W g 0 t := fun i hi => by
    rw [Nat.zero_add]
    exact h.cell (by rw [List.getElem?_append_left (by rw [bv_length]; exact hi)]; exact bv_at t i hi)
  have := Lib.run_convert_window (P := Tryz.prog) W 56 5 9 Tryz.underlying56 Tryz.underlying5 Tryz.underlying9 g 0 t hb 0 k cap (by omega)
  subst hk
  have e : t.extract 0 (0 + t.size) = t := by rw [Nat.zero_add]; exact ByteArray.extract_zero_size
  rw [e, Nat.zero_add] at this
  exact this
theorem bv_of {t : ByteArray} {l : List UInt8} (h : t.data.toList = l) : bv t = l.map fun b => Value.int .u8 (b.toNat : Int) := by
  unfold bv; rw [h]; rfl
theorem size_of {t : ByteArray} {l : List UInt8} (h : t.data.toList = l) : t.size = l.length := by
  rw [← h]; simp
theorem bits_and15 (n : Int) (h0 : 0 ≤ n) (h1 : n ≤ 255) : bits BinOp.and IntKind.u8 n 15 = n % 16 := by
  have h : ∀ m : Fin 256, bits BinOp.and IntKind.u8 (m.val : Int) 15 = (m.val : Int) % 16 := by decide +kernel
  have := h ⟨n.toNat, by omega⟩
  simpa [Int.toNat_of_nonneg h0] using this
/-- The digits to the base 16. -/
theorem hexd_at (m : Int) (h0 : 0 ≤ m) (h1 : m < 16) (hb : m.toNat < ByteArray.size { data := #[48, 49, 50, 51, 52, 53, 54, 55, 56, 57, 97, 98, 99, 100, 101, 102] }) :
    ({ data := #[48, 49, 50, 51, 52, 53, 54, 55, 56, 57, 97, 98, 99, 100, 101, 102] } : ByteArray)[m.toNat]'hb = Qt.hexd m.toNat := by
  have h : ∀ k : Fin 16, ({ data := #[48, 49, 50, 51, 52, 53, 54, 55, 56, 57, 97, 98, 99, 100, 101, 102] } : ByteArray)[k.val]'(k.isLt) = Qt.hexd k.val := by decide +kernel
  exact h ⟨m.toNat, by omega⟩
theorem ret_cb {a b : Int} (h : a = b) : Ending.returned (.tuple #[.int .u8 a, .bool true]) = .returned (.tuple #[.int .u8 b, .bool true]) := by rw [h]
theorem printed_any (n : Int) (b : Bool) (hb : decide (32 ≤ n ∧ n ≤ 126) = b) (w : World) :
    Calls Tryz.prog 55 #[.int .u8 n] w fun e w' => e = .returned (.bool b) ∧ w = w' := by
  by_cases h1 : 32 ≤ n
  · by_cases h2 : n ≤ 126
    · obtain rfl : b = true := by rw [← hb]; simp; omega
      clear hb
      go_enter Tryz.func55, Tryz.ntmps55
      go_wp2
      go_ret
      exact ⟨rfl, rfl⟩
    · obtain rfl : b = false := by rw [← hb]; simp; omega
      clear hb
      go_enter Tryz.func55, Tryz.ntmps55
      go_wp2
      go_ret
      exact ⟨rfl, rfl⟩
  · obtain rfl : b = false := by rw [← hb]; simp; omega
    clear hb
    go_enter Tryz.func55, Tryz.ntmps55
    go_wp2
    go_ret
    exact ⟨rfl, rfl⟩
theorem sign_const (c : UInt8) (t : ByteArray) (ht : t.data.toList = Qt.sgn c) (hc : c = 34 ∨ c = 92 ∨ c = 10 ∨ c = 13 ∨ c = 9) (w : World) :
    Calls Tryz.prog 40 #[.int .u8 c.toNat] w fun e w' => e = .returned (.string t) ∧ Below w.heap.size w w' := by
  rcases hc with rfl | rfl | rfl | rfl | rfl
  · obtain rfl : t = ⟨#[92, 34]⟩ := text_ext (by rw [ht]; rfl)
    have e : ((34 : UInt8).toNat : Int) = 34 := rfl
    rw [e]; clear e ht
    go_enter Tryz.func40, Tryz.ntmps40
    go_wp2
    go_ret
    exact ⟨rfl, Below.refl _ _⟩
  · obtain rfl : t = ⟨#[92, 92]⟩ := text_ext (by rw [ht]; rfl)
    have e : ((92 : UInt8).toNat : Int) = 92 := rfl
    rw [e]; clear e ht
    go_enter Tryz.func40, Tryz.ntmps40
    go_wp2
    go_ret
    exact ⟨rfl, Below.refl _ _⟩
  · obtain rfl : t = ⟨#[92, 110]⟩ := text_ext (by rw [ht]; rfl)
    have e : ((10 : UInt8).toNat : Int) = 10 := rfl
    rw [e]; clear e ht
    go_enter Tryz.func40, Tryz.ntmps40
    go_wp2
    go_ret
    exact ⟨rfl, Below.refl _ _⟩
  · obtain rfl : t = ⟨#[92, 114]⟩ := text_ext (by rw [ht]; rfl)
    have e : ((13 : UInt8).toNat : Int) = 13 := rfl
    rw [e]; clear e ht
    go_enter Tryz.func40, Tryz.ntmps40
    go_wp2
    go_ret
    exact ⟨rfl, Below.refl _ _⟩
  · obtain rfl : t = ⟨#[92, 116]⟩ := text_ext (by rw [ht]; rfl)
    have e : ((9 : UInt8).toNat : Int) = 9 := rfl
    rw [e]; clear e ht
    go_enter Tryz.func40, Tryz.ntmps40
    go_wp2
    go_ret
    exact ⟨rfl, Below.refl _ _⟩
theorem sign_plain (c : UInt8) (t : ByteArray) (ht : t.data.toList = [c]) (h1 : 32 ≤ (c.toNat : Int)) (h2 : (c.toNat : Int) ≤ 126) (h3 : ¬ c = 34) (h4 : ¬ c = 92) (w : World) :
    Calls Tryz.prog 40 #[.int .u8 c.toNat] w fun e w' => e = .returned (.string t) ∧ Below w.heap.size w w' := by
  have k3 : ((c.toNat : Int) == 34) = false := by rw [beq_eq_false_iff_ne]; exact fun e => h3 (u8_eq e)
  have k4 : ((c.toNat : Int) == 92) = false := by rw [beq_eq_false_iff_ne]; exact fun e => h4 (u8_eq e)
  have k5 : ((c.toNat : Int) == 10) = false := by rw [beq_eq_false_iff_ne]; omega
  have k6 : ((c.toNat : Int) == 13) = false := by rw [beq_eq_false_iff_ne]; omega
  have k7 : ((c.toNat : Int) == 9) = false := by rw [beq_eq_false_iff_ne]; omega
  have HT := Lib.hid ht
  clear ht h3 h4
  obtain ⟨n, hn⟩ : ∃ n : Int, (c.toNat : Int) = n := ⟨_, rfl⟩
  have HN := Lib.hid hn
  rw [hn] at k3 k4 k5 k6 k7 h1 h2 ⊢
  clear hn
  have hcv : (convert 56 9 (.slice (some ⟨w.heap.size, 0, none⟩) 1 1)).run Tryz.prog (w.alloc (.cells #[.int .u8 n] 5)) = .ok (.string t) (w.alloc (.cells #[.int .u8 n] 5)) :=
    conv_blk _ _ 1 1 t 5 [] (by rw [bv_of HT.out, List.append_nil, List.map_cons, List.map_nil, HN.out]; exact Blk.newA w _ _) (by rw [size_of HT.out]; rfl)
  go_enter Tryz.func40, Tryz.ntmps40
  go_wp2_with (go_at_call 55; refine (printed_any _ true (by simp; omega) _).mono ?_; rintro e w' ⟨rfl, rfl⟩)
  go_ret
  exact ⟨rfl, by go_grown⟩
theorem sign_hex (c : UInt8) (t : ByteArray) (ht : t.data.toList = [92, 120, Qt.hexd (c.toNat / 16), Qt.hexd (c.toNat % 16)]) (h1 : ¬ (32 ≤ (c.toNat : Int) ∧ (c.toNat : Int) ≤ 126)) (h5 : ¬ c = 10) (h6 : ¬ c = 13) (h7 : ¬ c = 9) (w : World) :
    Calls Tryz.prog 40 #[.int .u8 c.toNat] w fun e w' => e = .returned (.string t) ∧ Below w.heap.size w w' := by
  have k3 : ((c.toNat : Int) == 34) = false := by rw [beq_eq_false_iff_ne]; omega
  have k4 : ((c.toNat : Int) == 92) = false := by rw [beq_eq_false_iff_ne]; omega
  have k5 : ((c.toNat : Int) == 10) = false := by rw [beq_eq_false_iff_ne]; exact fun e => h5 (u8_eq e)
  have k6 : ((c.toNat : Int) == 13) = false := by rw [beq_eq_false_iff_ne]; exact fun e => h6 (u8_eq e)
  have k7 : ((c.toNat : Int) == 9) = false := by rw [beq_eq_false_iff_ne]; exact fun e => h7 (u8_eq e)
  have HT := Lib.hid ht
  have HP : Hid (decide (32 ≤ (c.toNat : Int) ∧ (c.toNat : Int) ≤ 126) = false) := Lib.hid (by simp; omega)
  clear ht h5 h6 h7 h1
  obtain ⟨n, hn⟩ : ∃ n : Int, (c.toNat : Int) = n := ⟨_, rfl⟩
  have HN := Lib.hid hn
  have b0 : 0 ≤ n := by omega
  have b1 : n ≤ 255 := by have := u8_lt c; omega
  rw [hn] at k3 k4 k5 k6 k7 HP ⊢
  clear hn
  have q1 : 0 ≤ n / 16 := by omega
  have q2 : n / 16 < 16 := by omega
  have q3 : 0 ≤ n % 16 := by omega
  have q4 : n % 16 < 16 := by omega
  have q5 := bits_and15 n b0 b1
  go_enter Tryz.func40, Tryz.ntmps40
  go_wp2_with (go_at_call 55; refine (printed_any _ false HP.out _).mono ?_; rintro e w' ⟨rfl, rfl⟩)
  obtain ⟨x1, hx1⟩ : ∃ x1, Qt.hexd (n / 16).toNat = x1 := ⟨_, rfl⟩
  obtain ⟨x2, hx2⟩ : ∃ x2, Qt.hexd (n % 16).toNat = x2 := ⟨_, rfl⟩
  have d1 := fun hb => (hexd_at (n / 16) q1 q2 hb).trans hx1
  have d2 := fun hb => (hexd_at (n % 16) q3 q4 hb).trans hx2
  have ht : t.data.toList = [92, 120, x1, x2] := by rw [HT.out, ← hx1, ← hx2, ← HN.out]; rfl
  have hcv : (convert 56 9 (.slice (some ⟨w.heap.size, 0, none⟩) 4 4)).run Tryz.prog (w.alloc (.cells #[.int .u8 92, .int .u8 120, .int .u8 x1.toNat, .int .u8 x2.toNat] 5)).drew = .ok (.string t) (w.alloc (.cells #[.int .u8 92, .int .u8 120, .int .u8 x1.toNat, .int .u8 x2.toNat] 5)).drew :=
    conv_blk _ _ 4 4 t 5 [] (by rw [bv_of ht, List.append_nil]; exact (Blk.newA w _ _).drew) (by rw [size_of ht]; rfl)
  clear hx1 hx2 ht
  go_region
  all_goals
    go_wp2
    go_ret
    exact ⟨rfl, by go_grown⟩
theorem counts_any (c : UInt8) (x : Nat) (b : Bool) (h : Qt.val c = if b = true then some x else none) (h0 : b = false → x = 0) (w : World) :
    Calls Tryz.prog 108 #[.int .u8 c.toNat] w fun e w' => e = .returned (.tuple #[.int .u8 x, .bool b]) ∧ w = w' := by
  have k1 := u8_lt c
  obtain ⟨n, hn⟩ : ∃ n : Int, (c.toNat : Int) = n := ⟨_, rfl⟩
  have b0 : 0 ≤ n := by omega
  have hx : n = 48 + x ∧ x ≤ 9 ∧ b = true ∨ n = 87 + x ∧ 10 ≤ x ∧ x ≤ 15 ∧ b = true ∨ (n < 48 ∨ 57 < n ∧ n < 97 ∨ 102 < n) ∧ x = 0 ∧ b = false := by
    unfold Qt.val at h
    by_cases g1 : 48 ≤ c.toNat ∧ c.toNat ≤ 57
    · rw [if_pos g1] at h
      cases b with
      | true => have e := Option.some.inj h; exact Or.inl ⟨by omega, by omega, rfl⟩
      | false => cases h
    · rw [if_neg g1] at h
      by_cases g2 : 97 ≤ c.toNat ∧ c.toNat ≤ 102
      · rw [if_pos g2] at h
        cases b with
        | true => have e := Option.some.inj h; exact Or.inr (Or.inl ⟨by omega, by omega, by omega, rfl⟩)
        | false => cases h
      · rw [if_neg g2] at h
        cases b with
        | true => cases h
        | false => exact Or.inr (Or.inr ⟨by omega, h0 rfl, rfl⟩)
  clear h h0
  rw [hn]
  rw [hn] at k1
  clear hn
  rcases hx with ⟨rfl, h1, rfl⟩ | ⟨rfl, h1, h2, rfl⟩ | ⟨h1, rfl, rfl⟩
  · go_enter Tryz.func108, Tryz.ntmps108
    go_wp2
    go_ret2
    exact ⟨ret_cb (by omega), rfl⟩
  · go_enter Tryz.func108, Tryz.ntmps108
    go_wp2
    go_ret2
    exact ⟨ret_cb (by omega), rfl⟩
  · rcases h1 with h1 | h1 | h1
    all_goals
      go_enter Tryz.func108, Tryz.ntmps108
      go_wp2
      go_ret2
      exact ⟨rfl, rfl⟩
theorem sign_any (c : UInt8) (t : ByteArray) (ht : t.data.toList = Qt.sgn c) (w : World) :
    Calls Tryz.prog 40 #[.int .u8 c.toNat] w fun e w' => e = .returned (.string t) ∧ Below w.heap.size w w' := by
  by_cases h : c = 34 ∨ c = 92 ∨ c = 10 ∨ c = 13 ∨ c = 9
  · exact sign_const c t ht h w
  · simp only [not_or] at h
    obtain ⟨h1, h2, h3, h4, h5⟩ := h
    unfold Qt.sgn at ht
    rw [if_neg h1, if_neg h2, if_neg h3, if_neg h4, if_neg h5] at ht
    by_cases h6 : 32 ≤ c.toNat ∧ c.toNat ≤ 126
    · rw [if_pos h6] at ht
      exact sign_plain c t ht (by omega) (by omega) h1 h2 w
    · rw [if_neg h6] at ht
      exact sign_hex c t ht (by omega) h3 h4 h5 w
theorem drop_cons (s : ByteArray) (i : Nat) (h : i < s.size) : s.data.toList.drop i = s[i] :: s.data.toList.drop (i + 1) := by
  rw [List.drop_eq_getElem_cons (by simpa using h)]; rfl
theorem drop_end (s : ByteArray) (i : Nat) (h : s.size ≤ i) : s.data.toList.drop i = [] := List.drop_of_length_le (by simpa using h)
theorem bits_or0 (x : Nat) (h : x ≤ 15) : bits BinOp.or IntKind.u8 0 (x : Int) = x := by
  have h' : ∀ m : Fin 16, bits BinOp.or IntKind.u8 0 (m.val : Int) = (m.val : Int) := by decide +kernel
  exact h' ⟨x, by omega⟩
theorem bits_or16 (x y : Nat) (h : x ≤ 15) (k : y ≤ 15) : bits BinOp.or IntKind.u8 ((x : Int) * 16) (y : Int) = 16 * (x : Int) + y := by
  have h' : ∀ m n : Fin 16, bits BinOp.or IntKind.u8 ((m.val : Int) * 16) (n.val : Int) = 16 * (m.val : Int) + n.val := by decide +kernel
  exact h' ⟨x, by omega⟩ ⟨y, by omega⟩
theorem val_le {c : UInt8} {x : Nat} (h : Qt.val c = some x) : x ≤ 15 := by
  unfold Qt.val at h
  split at h
  · have := Option.some.inj h; omega
  · split at h
    · have := Option.some.inj h; omega
    · cases h
theorem counts_yes (c : UInt8) (x : Nat) (h : Qt.val c = some x) (w : World) :
    Calls Tryz.prog 108 #[.int .u8 c.toNat] w fun e w' => e = .returned (.tuple #[.int .u8 x, .bool true]) ∧ w = w' := counts_any c x true (by simpa using h) (by simp) w
theorem counts_no (c : UInt8) (h : Qt.val c = none) (w : World) :
    Calls Tryz.prog 108 #[.int .u8 c.toNat] w fun e w' => e = .returned (.tuple #[.int .u8 (0 : Nat), .bool false]) ∧ w = w' := counts_any c 0 false (by simpa using h) (by simp) w
theorem rdig_2 (s : ByteArray) (h : s.size = 2) (w : World) :
    Calls Tryz.prog 105 #[.string s] w fun e w' => e = .returned (.tuple #[.int .u8 0, .int .i64 2, .int .i64 3]) ∧ w = w' := by
  go_enter Tryz.func105, Tryz.ntmps105
  go_wp2
  go_loop [5, 6] (fun b i => b = .int .u8 0 ∧ i = .int .i64 2) (fun _ i => 4 - (intOf i).toNat)
  case atStart => exact ⟨rfl, rfl⟩
  case round =>
    obtain ⟨rfl, rfl⟩ := hrel
    go_wp2
    go_ret3
    exact ⟨rfl, rfl⟩
theorem rdig_2n (s : ByteArray) (h : 2 < s.size) (hs : s.size ≤ 1000000) (hv : Qt.val s[2] = none) (w : World) :
    Calls Tryz.prog 105 #[.string s] w fun e w' => e = .returned (.tuple #[.int .u8 0, .int .i64 2, .int .i64 2]) ∧ w = w' := by
  have HV := Lib.hid hv
  clear hv
  go_enter Tryz.func105, Tryz.ntmps105
  go_wp2
  go_loop [5, 6] (fun b i => b = .int .u8 0 ∧ i = .int .i64 2) (fun _ i => 4 - (intOf i).toNat)
  case atStart => exact ⟨rfl, rfl⟩
  case round =>
    obtain ⟨rfl, rfl⟩ := hrel
    go_wp2_with (go_at_call 108; refine (counts_no _ HV.out _).mono ?_; rintro e w' ⟨rfl, rfl⟩)
    go_ret3
    exact ⟨rfl, rfl⟩
theorem rdig_3 (s : ByteArray) (h : s.size = 3) (x : Nat) (hv : Qt.val s[2] = some x) (w : World) :
    Calls Tryz.prog 105 #[.string s] w fun e w' => e = .returned (.tuple #[.int .u8 0, .int .i64 3, .int .i64 3]) ∧ w = w' := by
  have hx := val_le hv
  have HV := Lib.hid hv
  have h2 : 2 < s.size := by omega
  have o1 := bits_or0 x hx
  clear hv
  go_enter Tryz.func105, Tryz.ntmps105
  go_wp2
  go_loop [5, 6] (fun b i => b = .int .u8 0 ∧ i = .int .i64 2 ∨ b = .int .u8 x ∧ i = .int .i64 3) (fun _ i => 4 - (intOf i).toNat)
  case atStart => exact Or.inl ⟨rfl, rfl⟩
  case round =>
    rcases hrel with ⟨rfl, rfl⟩ | ⟨rfl, rfl⟩
    · go_wp2_with (go_at_call 108; refine (counts_yes _ x HV.out _).mono ?_; rintro e w' ⟨rfl, rfl⟩)
      go_round
      case rel => exact Or.inr ⟨rfl, rfl⟩
      case measure => simp [intOf]
    · go_wp2
      go_ret3
      exact ⟨rfl, rfl⟩
theorem rdig_3n (s : ByteArray) (h : 3 < s.size) (hs : s.size ≤ 1000000) (x : Nat) (hv : Qt.val s[2] = some x) (hw : Qt.val s[3] = none) (w : World) :
    Calls Tryz.prog 105 #[.string s] w fun e w' => e = .returned (.tuple #[.int .u8 0, .int .i64 3, .int .i64 2]) ∧ w = w' := by
  have hx := val_le hv
  have HV := Lib.hid hv
  have HW := Lib.hid hw
  have h2 : 2 < s.size := by omega
  have o1 := bits_or0 x hx
  clear hv hw
  go_enter Tryz.func105, Tryz.ntmps105
  go_wp2
  go_loop [5, 6] (fun b i => b = .int .u8 0 ∧ i = .int .i64 2 ∨ b = .int .u8 x ∧ i = .int .i64 3) (fun _ i => 4 - (intOf i).toNat)
  case atStart => exact Or.inl ⟨rfl, rfl⟩
  case round =>
    rcases hrel with ⟨rfl, rfl⟩ | ⟨rfl, rfl⟩
    · go_wp2_with (go_at_call 108; refine (counts_yes _ x HV.out _).mono ?_; rintro e w' ⟨rfl, rfl⟩)
      go_round
      case rel => exact Or.inr ⟨rfl, rfl⟩
      case measure => simp [intOf]
    · go_wp2_with (go_at_call 108; refine (counts_no _ HW.out _).mono ?_; rintro e w' ⟨rfl, rfl⟩)
      go_ret3
      exact ⟨rfl, rfl⟩
theorem rdig_4 (s : ByteArray) (h : 3 < s.size) (hs : s.size ≤ 1000000) (x y : Nat) (hv : Qt.val s[2] = some x) (hw : Qt.val s[3] = some y) (w : World) :
    Calls Tryz.prog 105 #[.string s] w fun e w' => e = .returned (.tuple #[.int .u8 (16 * (x : Int) + y), .int .i64 4, .int .i64 0]) ∧ w = w' := by
  have hx := val_le hv
  have hy := val_le hw
  have HV := Lib.hid hv
  have HW := Lib.hid hw
  have h2 : 2 < s.size := by omega
  have o1 := bits_or0 x hx
  have o2 := bits_or16 x y hx hy
  clear hv hw
  go_enter Tryz.func105, Tryz.ntmps105
  go_wp2
  go_loop [5, 6] (fun b i => b = .int .u8 0 ∧ i = .int .i64 2 ∨ b = .int .u8 x ∧ i = .int .i64 3 ∨ b = .int .u8 (16 * (x : Int) + y) ∧ i = .int .i64 4) (fun _ i => 4 - (intOf i).toNat)
  case atStart => exact Or.inl ⟨rfl, rfl⟩
  case round =>
    rcases hrel with ⟨rfl, rfl⟩ | ⟨rfl, rfl⟩ | ⟨rfl, rfl⟩
    · go_wp2_with (go_at_call 108; refine (counts_yes _ x HV.out _).mono ?_; rintro e w' ⟨rfl, rfl⟩)
      go_round
      case rel => exact Or.inr (Or.inl ⟨rfl, rfl⟩)
      case measure => simp [intOf]
    · go_wp2_with (go_at_call 108; refine (counts_yes _ y HW.out _).mono ?_; rintro e w' ⟨rfl, rfl⟩)
      go_round
      case rel => exact Or.inr (Or.inr ⟨rfl, rfl⟩)
      case measure => simp [intOf]
    · go_wp2
      go_ret3
      exact ⟨rfl, rfl⟩
end Go.Proofs.YtfhhkmjjifbfeaaGreatDoor
