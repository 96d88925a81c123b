/- The document's own answers of layer 2: the byte of a sign. -/
import Derived.Test.YtopiiehdgknmgaaDoorQtR
namespace Go.Proofs.YtopiiehdgknmgaaDoor
open Go.ChangeShapes Go.WideShapes Go.ChangeAt Go.RowKit
set_option linter.unusedSimpArgs false
set_option linter.unusedVariables false

theorem ret_ub {a b : Int} (h : a = b) : Ending.returned (.tuple #[.int .u8 a, .int .i64 2, .bool true]) = .returned (.tuple #[.int .u8 b, .int .i64 2, .bool true]) := by rw [h]
theorem o1_empty (w : World) :
    Calls Tryd.prog 35 #[.string ⟨#[]⟩] w fun e w' => e = .returned (.tuple #[.int .u8 0, .int .i64 0, .bool false]) ∧ Below w.heap.size w w' := by
  go_enter Tryd.func35, Tryd.ntmps35
  go_wp2
  go_ret3
  exact ⟨rfl, Below.refl _ _⟩
theorem o1_no (s : ByteArray) (h0 : 0 < s.size) (hs : s.size ≤ 1000000) (hp : (s[0].toNat : Int) < 32 ∨ (32 ≤ (s[0].toNat : Int) ∧ 126 < (s[0].toNat : Int)) ∨ (s[0].toNat : Int) = 34) (w : World) :
    Calls Tryd.prog 35 #[.string s] w fun e w' => e = .returned (.tuple #[.int .u8 0, .int .i64 0, .bool false]) ∧ Below w.heap.size w w' := by
  have he := ne_empty s h0
  rcases hp with h | ⟨h1, h⟩ | h
  all_goals
    go_enter Tryd.func35, Tryd.ntmps35
    go_wp2
    go_ret3
    exact ⟨rfl, Below.refl _ _⟩
theorem o1_plain (s : ByteArray) (h0 : 0 < s.size) (hs : s.size ≤ 1000000) (h1 : 32 ≤ (s[0].toNat : Int)) (h2 : (s[0].toNat : Int) ≤ 126) (h34 : ((s[0].toNat : Int) == 34) = false) (h92 : ((s[0].toNat : Int) == 92) = false) (w : World) :
    Calls Tryd.prog 35 #[.string s] w fun e w' => e = .returned (.tuple #[.int .u8 s[0].toNat, .int .i64 1, .bool true]) ∧ Below w.heap.size w w' := by
  have he := ne_empty s h0
  go_enter Tryd.func35, Tryd.ntmps35
  go_wp2
  go_ret3
  exact ⟨rfl, Below.refl _ _⟩
theorem o1_one (s : ByteArray) (h0 : 0 < s.size) (h1 : s.size = 1) (h92 : (s[0].toNat : Int) = 92) (w : World) :
    Calls Tryd.prog 35 #[.string s] w fun e w' => e = .returned (.tuple #[.int .u8 0, .int .i64 1, .bool false]) ∧ Below w.heap.size w w' := by
  have he := ne_empty s h0
  go_enter Tryd.func35, Tryd.ntmps35
  go_wp2
  go_ret3
  exact ⟨rfl, Below.refl _ _⟩
theorem qr_sign_nat (k : Nat) (hk : k < 256) (t : ByteArray) (ht : t.data.toList = Qt.sgn (UInt8.ofNat k)) (w : World) :
    Calls Tryd.prog 32 #[.int .u8 (k : Int)] w fun e w' => e = .returned (.string t) ∧ Below w.heap.size w w' := by
  have e : ((UInt8.ofNat k).toNat : Int) = k := by rw [UInt8.toNat_ofNat']; omega
  have := qr_sign_any (UInt8.ofNat k) t ht w
  rwa [e] at this
/-- Which signs are two bytes long and begin with a stroke. -/
theorem sgn_two : ∀ b : UInt8, ∀ d : UInt8, Qt.sgn b = [92, d] ↔ Qt.esc d = some b := by
  have h1 : ∀ b : Fin 256, (match Qt.sgn (UInt8.ofNat b.val) with | [92, d] => decide (Qt.esc d = some (UInt8.ofNat b.val)) | _ => true) = true := by decide +kernel
  have h2 : ∀ d : Fin 256, (match Qt.esc (UInt8.ofNat d.val) with | some b => decide (Qt.sgn b = [92, UInt8.ofNat d.val]) | none => true) = true := by decide +kernel
  intro b d
  constructor
  · intro h
    have k := h1 ⟨b.toNat, b.toNat_lt⟩
    simp only [UInt8.ofNat_toNat] at k
    rw [h] at k
    simpa using k
  · intro h
    have k := h2 ⟨d.toNat, d.toNat_lt⟩
    simp only [UInt8.ofNat_toNat] at k
    rw [h] at k
    simpa using k
theorem one_ext {s u : ByteArray} (h1 : 1 < s.size) (hu : s.extract 0 2 = u) : u.data.toList = [s[0], s[1]] := by
  rw [← hu, ByteArray.data_extract, Array.toList_extract, List.extract_eq_take_drop]
  rw [list_of s (by omega), drop_cons s 1 h1]
  rfl
set_option maxRecDepth 20000 in
set_option maxHeartbeats 2000000 in
theorem o1_esc (s : ByteArray) (h0 : 0 < s.size) (h1 : 1 < s.size) (hs : s.size ≤ 1000000) (h92 : s[0] = 92) (b : UInt8) (hd : Qt.esc s[1] = some b) (w : World) :
    Calls Tryd.prog 35 #[.string s] w fun e w' => e = .returned (.tuple #[.int .u8 b.toNat, .int .i64 2, .bool true]) ∧ Below w.heap.size w w' := by
  have he := ne_empty s h0
  have h92' : (s[0].toNat : Int) = 92 := by rw [h92]; rfl
  have hsz1 : ((s.size : Int) == 1) = false := by rw [beq_eq_false_iff_ne]; omega
  obtain ⟨u, hu⟩ : ∃ u, s.extract 0 2 = u := ⟨_, rfl⟩
  have HU : Hid (u.data.toList = [(92 : UInt8), s[1]]) := Lib.hid (by rw [one_ext h1 hu, h92])
  have HD := Lib.hid (And.intro hd h92)
  clear hd h92
  go_enter Tryd.func35, Tryd.ntmps35
  go_wp2
  go_loopw [5] (fun i wr => ∃ k : Nat, i = .int .i64 k ∧ k ≤ b.toNat ∧ Hid (Below w.heap.size w wr)) (fun i _ => 256 - (intOf i).toNat)
  case atStart => exact ⟨0, rfl, by omega, Lib.hid (Below.refl _ _)⟩
  case round =>
    obtain ⟨k, rfl, hk, HB⟩ := hrel
    have hb := b.toNat_lt
    have i0 : (0 : Int) ≤ (k : Int) := by omega
    have i1 : (k : Int) < 256 := by omega
    have i2 : (k : Int) ≤ 255 := by omega
    obtain ⟨t1, ht1⟩ := text_mk (Qt.sgn (UInt8.ofNat k))
    have HT1 := Lib.hid ht1
    have l2 := (Qt.sgn_all (UInt8.ofNat k)).2.2
    have l1 := size_of ht1
    rw [← l1] at l2
    have t0 : 0 < t1.size := by omega
    clear ht1 l1
    by_cases hkb : k = b.toNat
    · have hs1 : Hid (t1.data.toList = [(92 : UInt8), s[1]]) := Lib.hid (by
        rw [HT1.out, hkb]
        have : UInt8.ofNat b.toNat = b := by simp
        rw [this]
        exact (sgn_two b s[1]).2 HD.out.1)
      have v1 : (t1[0].toNat : Int) = 92 := by
        have := list_of t1 t0
        rw [hs1.out] at this
        rw [← (List.cons.inj this).1]; rfl
      have v2 : t1.size = 2 := size_of hs1.out
      have v3 : u = t1 := text_ext (by rw [hs1.out, HU.out])
      subst v3
      have HKB := Lib.hid hkb
      clear hkb
      go_wp2_with (go_at_call 32; refine (qr_sign_nat k (by omega) u HT1.out _).mono ?_; rintro e w2 ⟨rfl, hb2⟩; have HB2 : Hid (Below w.heap.size w w2) := Lib.hid (HB.out.trans (hb2.mono HB.out.size)); clear hb2)
      go_ret3
      exact ⟨ret_ub (by rw [HKB.out]), HB2.out⟩
    · have hne : Qt.sgn (UInt8.ofNat k) ≠ [(92 : UInt8), s[1]] := fun e => by
        have h2 := (sgn_two _ _).1 e
        rw [HD.out.1] at h2
        have h3 := Option.some.inj h2
        rw [h3, UInt8.toNat_ofNat'] at hkb
        omega
      have hcase : Hid (((t1[0].toNat : Int) == 92) = false ∨ (t1[0].toNat : Int) = 92 ∧ ((t1.size : Int) == 2) = false ∨ (t1[0].toNat : Int) = 92 ∧ t1.size = 2 ∧ (t1.toList == u.toList) = false) := Lib.hid (by
        by_cases g1 : (t1[0].toNat : Int) = 92
        · by_cases g2 : t1.size = 2
          · refine Or.inr (Or.inr ⟨g1, g2, ?_⟩)
            rw [beq_eq_false_iff_ne, Lib.toList_data, Lib.toList_data, HT1.out, HU.out]
            exact hne
          · refine Or.inr (Or.inl ⟨g1, ?_⟩)
            rw [beq_eq_false_iff_ne]; omega
        · left; rw [beq_eq_false_iff_ne]; exact g1)
      have hlt : k < b.toNat := by omega
      clear hne hkb
      rcases hcase.out with g1 | ⟨g1, g2⟩ | ⟨g1, g2, g3⟩
      all_goals
        clear hcase
        go_wp2_with (go_at_call 32; refine (qr_sign_nat k (by omega) t1 HT1.out _).mono ?_; rintro e w2 ⟨rfl, hb2⟩; have HB2 : Hid (Below w.heap.size w w2) := Lib.hid (HB.out.trans (hb2.mono HB.out.size)); clear hb2)
        go_roundw
        case rel => exact ⟨k + 1, by go_num, by omega, HB2⟩
        case measure => simp [intOf]; omega
theorem two_cases (t u : ByteArray) (d : UInt8) (h0 : 0 < t.size) (hne : t.data.toList ≠ [(92 : UInt8), d]) (hu : u.data.toList = [(92 : UInt8), d]) :
    Hid (((t[0].toNat : Int) == 92) = false ∨ (t[0].toNat : Int) = 92 ∧ ((t.size : Int) == 2) = false ∨ (t[0].toNat : Int) = 92 ∧ t.size = 2 ∧ (t.toList == u.toList) = false) := Lib.hid (by
  by_cases g1 : (t[0].toNat : Int) = 92
  · by_cases g2 : t.size = 2
    · refine Or.inr (Or.inr ⟨g1, g2, ?_⟩)
      rw [beq_eq_false_iff_ne, Lib.toList_data, Lib.toList_data, hu]
      exact hne
    · refine Or.inr (Or.inl ⟨g1, ?_⟩)
      rw [beq_eq_false_iff_ne]; omega
  · left; rw [beq_eq_false_iff_ne]; exact g1)
set_option maxRecDepth 20000 in
set_option maxHeartbeats 2000000 in
theorem o1_bad (s : ByteArray) (h0 : 0 < s.size) (h1 : 1 < s.size) (hs : s.size ≤ 1000000) (h92 : s[0] = 92) (hd : Qt.esc s[1] = none) (hx : ((s[1].toNat : Int) == 120) = false) (w : World) :
    Calls Tryd.prog 35 #[.string s] w fun e w' => e = .returned (.tuple #[.int .u8 0, .int .i64 1, .bool false]) ∧ Below w.heap.size w w' := by
  have he := ne_empty s h0
  have h92' : (s[0].toNat : Int) = 92 := by rw [h92]; rfl
  have hsz1 : ((s.size : Int) == 1) = false := by rw [beq_eq_false_iff_ne]; omega
  obtain ⟨u, hu⟩ : ∃ u, s.extract 0 2 = u := ⟨_, rfl⟩
  have HU : Hid (u.data.toList = [(92 : UInt8), s[1]]) := Lib.hid (by rw [one_ext h1 hu, h92])
  have HD := Lib.hid (And.intro hd h92)
  clear hd h92
  go_enter Tryd.func35, Tryd.ntmps35
  go_wp2
  go_loopw [5] (fun i wr => ∃ k : Nat, i = .int .i64 k ∧ k ≤ 256 ∧ Hid (Below w.heap.size w wr)) (fun i _ => 256 - (intOf i).toNat)
  case atStart => exact ⟨0, rfl, by omega, Lib.hid (Below.refl _ _)⟩
  case round =>
    obtain ⟨k, rfl, hk, HB⟩ := hrel
    have i0 : (0 : Int) ≤ (k : Int) := by omega
    by_cases hk6 : k < 256
    · have i1 : (k : Int) < 256 := by omega
      have i2 : (k : Int) ≤ 255 := by omega
      obtain ⟨t1, ht1⟩ := text_mk (Qt.sgn (UInt8.ofNat k))
      have HT1 := Lib.hid ht1
      have l2 := (Qt.sgn_all (UInt8.ofNat k)).2.2
      have l1 := size_of ht1
      rw [← l1] at l2
      have t0 : 0 < t1.size := by omega
      clear ht1 l1
      have hne : Qt.sgn (UInt8.ofNat k) ≠ [(92 : UInt8), s[1]] := fun e => by
        have h2 := (sgn_two _ _).1 e
        rw [HD.out.1] at h2
        cases h2
      have hcase := two_cases t1 u s[1] t0 (by rw [HT1.out]; exact hne) HU.out
      clear hne
      rcases hcase.out with g1 | ⟨g1, g2⟩ | ⟨g1, g2, g3⟩
      all_goals
        clear hcase
        go_wp2_with (go_at_call 32; refine (qr_sign_nat k (by omega) t1 HT1.out _).mono ?_; rintro e w2 ⟨rfl, hb2⟩; have HB2 : Hid (Below w.heap.size w w2) := Lib.hid (HB.out.trans (hb2.mono HB.out.size)); clear hb2)
        go_roundw
        case rel => exact ⟨k + 1, by go_num, by omega, HB2⟩
        case measure => simp [intOf]; omega
    · have i1 : ¬ (k : Int) < 256 := by omega
      go_wp2
      go_ret3
      exact ⟨rfl, HB.out⟩
set_option maxRecDepth 20000 in
set_option maxHeartbeats 2000000 in
theorem o1_x2 (s : ByteArray) (h0 : 0 < s.size) (h1 : 1 < s.size) (hs : s.size ≤ 1000000) (h92 : s[0] = 92) (hd : Qt.esc s[1] = none) (hx : (s[1].toNat : Int) = 120) (h2 : s.size = 2) (w : World) :
    Calls Tryd.prog 35 #[.string s] w fun e w' => e = .returned (.tuple #[.int .u8 0, .int .i64 2, .bool false]) ∧ Below w.heap.size w w' := by
  have he := ne_empty s h0
  have h92' : (s[0].toNat : Int) = 92 := by rw [h92]; rfl
  have hsz1 : ((s.size : Int) == 1) = false := by rw [beq_eq_false_iff_ne]; omega
  obtain ⟨u, hu⟩ : ∃ u, s.extract 0 2 = u := ⟨_, rfl⟩
  have HU : Hid (u.data.toList = [(92 : UInt8), s[1]]) := Lib.hid (by rw [one_ext h1 hu, h92])
  have HD := Lib.hid (And.intro hd h92)
  clear hd h92
  go_enter Tryd.func35, Tryd.ntmps35
  go_wp2
  go_loopw [5] (fun i wr => ∃ k : Nat, i = .int .i64 k ∧ k ≤ 256 ∧ Hid (Below w.heap.size w wr)) (fun i _ => 256 - (intOf i).toNat)
  case atStart => exact ⟨0, rfl, by omega, Lib.hid (Below.refl _ _)⟩
  case round =>
    obtain ⟨k, rfl, hk, HB⟩ := hrel
    have i0 : (0 : Int) ≤ (k : Int) := by omega
    by_cases hk6 : k < 256
    · have i1 : (k : Int) < 256 := by omega
      have i2 : (k : Int) ≤ 255 := by omega
      obtain ⟨t1, ht1⟩ := text_mk (Qt.sgn (UInt8.ofNat k))
      have HT1 := Lib.hid ht1
      have l2 := (Qt.sgn_all (UInt8.ofNat k)).2.2
      have l1 := size_of ht1
      rw [← l1] at l2
      have t0 : 0 < t1.size := by omega
      clear ht1 l1
      have hne : Qt.sgn (UInt8.ofNat k) ≠ [(92 : UInt8), s[1]] := fun e => by
        have h2 := (sgn_two _ _).1 e
        rw [HD.out.1] at h2
        cases h2
      have hcase := two_cases t1 u s[1] t0 (by rw [HT1.out]; exact hne) HU.out
      clear hne
      rcases hcase.out with g1 | ⟨g1, g2⟩ | ⟨g1, g2, g3⟩
      all_goals
        clear hcase
        go_wp2_with (go_at_call 32; refine (qr_sign_nat k (by omega) t1 HT1.out _).mono ?_; rintro e w2 ⟨rfl, hb2⟩; have HB2 : Hid (Below w.heap.size w w2) := Lib.hid (HB.out.trans (hb2.mono HB.out.size)); clear hb2)
        go_roundw
        case rel => exact ⟨k + 1, by go_num, by omega, HB2⟩
        case measure => simp [intOf]; omega
    · have i1 : ¬ (k : Int) < 256 := by omega
      go_wp2
      go_loop [7, 8] (fun n i => n = .int .i64 0 ∧ i = .int .i64 2) (fun _ i => 4 - (intOf i).toNat)
      case atStart => exact ⟨rfl, rfl⟩
      case round =>
        obtain ⟨rfl, rfl⟩ := hrel
        go_wp2
        go_ret3
        exact ⟨rfl, HB.out⟩
set_option maxRecDepth 20000 in
set_option maxHeartbeats 2000000 in
theorem o1_x2n (s : ByteArray) (h0 : 0 < s.size) (h1 : 1 < s.size) (hs : s.size ≤ 1000000) (h92 : s[0] = 92) (hd : Qt.esc s[1] = none) (hx : (s[1].toNat : Int) = 120) (h2 : 2 < s.size) (hv : Qt.val s[2] = none) (w : World) :
    Calls Tryd.prog 35 #[.string s] w fun e w' => e = .returned (.tuple #[.int .u8 0, .int .i64 2, .bool false]) ∧ Below w.heap.size w w' := by
  have HV := Lib.hid hv
  clear hv
  have he := ne_empty s h0
  have h92' : (s[0].toNat : Int) = 92 := by rw [h92]; rfl
  have hsz1 : ((s.size : Int) == 1) = false := by rw [beq_eq_false_iff_ne]; omega
  obtain ⟨u, hu⟩ : ∃ u, s.extract 0 2 = u := ⟨_, rfl⟩
  have HU : Hid (u.data.toList = [(92 : UInt8), s[1]]) := Lib.hid (by rw [one_ext h1 hu, h92])
  have HD := Lib.hid (And.intro hd h92)
  clear hd h92
  go_enter Tryd.func35, Tryd.ntmps35
  go_wp2
  go_loopw [5] (fun i wr => ∃ k : Nat, i = .int .i64 k ∧ k ≤ 256 ∧ Hid (Below w.heap.size w wr)) (fun i _ => 256 - (intOf i).toNat)
  case atStart => exact ⟨0, rfl, by omega, Lib.hid (Below.refl _ _)⟩
  case round =>
    obtain ⟨k, rfl, hk, HB⟩ := hrel
    have i0 : (0 : Int) ≤ (k : Int) := by omega
    by_cases hk6 : k < 256
    · have i1 : (k : Int) < 256 := by omega
      have i2 : (k : Int) ≤ 255 := by omega
      obtain ⟨t1, ht1⟩ := text_mk (Qt.sgn (UInt8.ofNat k))
      have HT1 := Lib.hid ht1
      have l2 := (Qt.sgn_all (UInt8.ofNat k)).2.2
      have l1 := size_of ht1
      rw [← l1] at l2
      have t0 : 0 < t1.size := by omega
      clear ht1 l1
      have hne : Qt.sgn (UInt8.ofNat k) ≠ [(92 : UInt8), s[1]] := fun e => by
        have h2 := (sgn_two _ _).1 e
        rw [HD.out.1] at h2
        cases h2
      have hcase := two_cases t1 u s[1] t0 (by rw [HT1.out]; exact hne) HU.out
      clear hne
      rcases hcase.out with g1 | ⟨g1, g2⟩ | ⟨g1, g2, g3⟩
      all_goals
        clear hcase
        go_wp2_with (go_at_call 32; refine (qr_sign_nat k (by omega) t1 HT1.out _).mono ?_; rintro e w2 ⟨rfl, hb2⟩; have HB2 : Hid (Below w.heap.size w w2) := Lib.hid (HB.out.trans (hb2.mono HB.out.size)); clear hb2)
        go_roundw
        case rel => exact ⟨k + 1, by go_num, by omega, HB2⟩
        case measure => simp [intOf]; omega
    · have i1 : ¬ (k : Int) < 256 := by omega
      go_wp2
      go_loop [7, 8] (fun n i => n = .int .i64 0 ∧ i = .int .i64 2) (fun _ i => 4 - (intOf i).toNat)
      case atStart => exact ⟨rfl, rfl⟩
      case round =>
        obtain ⟨rfl, rfl⟩ := hrel
        go_wp2_with (go_at_call 43; with_reducible refine (qr_value_no _ HV.out _).mono ?_; rintro e w2 ⟨rfl, rfl⟩)
        go_ret3
        exact ⟨rfl, HB.out⟩
set_option maxRecDepth 20000 in
set_option maxHeartbeats 2000000 in
theorem o1_x3 (s : ByteArray) (h0 : 0 < s.size) (h1 : 1 < s.size) (hs : s.size ≤ 1000000) (h92 : s[0] = 92) (hd : Qt.esc s[1] = none) (hx : (s[1].toNat : Int) = 120) (h2 : 2 < s.size) (h3 : s.size = 3) (x : Nat) (hv : Qt.val s[2] = some x) (w : World) :
    Calls Tryd.prog 35 #[.string s] w fun e w' => e = .returned (.tuple #[.int .u8 0, .int .i64 3, .bool false]) ∧ Below w.heap.size w w' := by
  have e2 : ((2 : Int) == (s.size : Int)) = false := by rw [beq_eq_false_iff_ne]; omega
  have hxx := val_le hv
  have HV := Lib.hid hv
  clear hv
  have he := ne_empty s h0
  have h92' : (s[0].toNat : Int) = 92 := by rw [h92]; rfl
  have hsz1 : ((s.size : Int) == 1) = false := by rw [beq_eq_false_iff_ne]; omega
  obtain ⟨u, hu⟩ : ∃ u, s.extract 0 2 = u := ⟨_, rfl⟩
  have HU : Hid (u.data.toList = [(92 : UInt8), s[1]]) := Lib.hid (by rw [one_ext h1 hu, h92])
  have HD := Lib.hid (And.intro hd h92)
  clear hd h92
  go_enter Tryd.func35, Tryd.ntmps35
  go_wp2
  go_loopw [5] (fun i wr => ∃ k : Nat, i = .int .i64 k ∧ k ≤ 256 ∧ Hid (Below w.heap.size w wr)) (fun i _ => 256 - (intOf i).toNat)
  case atStart => exact ⟨0, rfl, by omega, Lib.hid (Below.refl _ _)⟩
  case round =>
    obtain ⟨k, rfl, hk, HB⟩ := hrel
    have i0 : (0 : Int) ≤ (k : Int) := by omega
    by_cases hk6 : k < 256
    · have i1 : (k : Int) < 256 := by omega
      have i2 : (k : Int) ≤ 255 := by omega
      obtain ⟨t1, ht1⟩ := text_mk (Qt.sgn (UInt8.ofNat k))
      have HT1 := Lib.hid ht1
      have l2 := (Qt.sgn_all (UInt8.ofNat k)).2.2
      have l1 := size_of ht1
      rw [← l1] at l2
      have t0 : 0 < t1.size := by omega
      clear ht1 l1
      have hne : Qt.sgn (UInt8.ofNat k) ≠ [(92 : UInt8), s[1]] := fun e => by
        have h2 := (sgn_two _ _).1 e
        rw [HD.out.1] at h2
        cases h2
      have hcase := two_cases t1 u s[1] t0 (by rw [HT1.out]; exact hne) HU.out
      clear hne
      rcases hcase.out with g1 | ⟨g1, g2⟩ | ⟨g1, g2, g3⟩
      all_goals
        clear hcase
        go_wp2_with (go_at_call 32; refine (qr_sign_nat k (by omega) t1 HT1.out _).mono ?_; rintro e w2 ⟨rfl, hb2⟩; have HB2 : Hid (Below w.heap.size w w2) := Lib.hid (HB.out.trans (hb2.mono HB.out.size)); clear hb2)
        go_roundw
        case rel => exact ⟨k + 1, by go_num, by omega, HB2⟩
        case measure => simp [intOf]; omega
    · have i1 : ¬ (k : Int) < 256 := by omega
      go_wp2
      go_loop [7, 8] (fun n i => n = .int .i64 0 ∧ i = .int .i64 2 ∨ n = .int .i64 x ∧ i = .int .i64 3) (fun _ i => 4 - (intOf i).toNat)
      case atStart => exact Or.inl ⟨rfl, rfl⟩
      case round =>
        rcases hrel with ⟨rfl, rfl⟩ | ⟨rfl, rfl⟩
        · go_wp2_with (go_at_call 43; with_reducible refine (qr_value_yes _ x HV.out _).mono ?_; rintro e w2 ⟨rfl, rfl⟩)
          go_round
          case rel => exact Or.inr ⟨rfl, rfl⟩
          case measure => simp [intOf]
        · go_wp2
          go_ret3
          exact ⟨rfl, HB.out⟩
set_option maxRecDepth 20000 in
set_option maxHeartbeats 2000000 in
theorem o1_x3n (s : ByteArray) (h0 : 0 < s.size) (h1 : 1 < s.size) (hs : s.size ≤ 1000000) (h92 : s[0] = 92) (hd : Qt.esc s[1] = none) (hx : (s[1].toNat : Int) = 120) (h2 : 2 < s.size) (h3 : 3 < s.size) (x : Nat) (hv : Qt.val s[2] = some x) (hw : Qt.val s[3] = none) (w : World) :
    Calls Tryd.prog 35 #[.string s] w fun e w' => e = .returned (.tuple #[.int .u8 0, .int .i64 3, .bool false]) ∧ Below w.heap.size w w' := by
  have e3 : ((3 : Int) == (s.size : Int)) = false := by rw [beq_eq_false_iff_ne]; omega
  have e2 : ((2 : Int) == (s.size : Int)) = false := by rw [beq_eq_false_iff_ne]; omega
  have hxx := val_le hv
  have HV := Lib.hid hv
  clear hv
  have HW := Lib.hid hw
  clear hw
  have he := ne_empty s h0
  have h92' : (s[0].toNat : Int) = 92 := by rw [h92]; rfl
  have hsz1 : ((s.size : Int) == 1) = false := by rw [beq_eq_false_iff_ne]; omega
  obtain ⟨u, hu⟩ : ∃ u, s.extract 0 2 = u := ⟨_, rfl⟩
  have HU : Hid (u.data.toList = [(92 : UInt8), s[1]]) := Lib.hid (by rw [one_ext h1 hu, h92])
  have HD := Lib.hid (And.intro hd h92)
  clear hd h92
  go_enter Tryd.func35, Tryd.ntmps35
  go_wp2
  go_loopw [5] (fun i wr => ∃ k : Nat, i = .int .i64 k ∧ k ≤ 256 ∧ Hid (Below w.heap.size w wr)) (fun i _ => 256 - (intOf i).toNat)
  case atStart => exact ⟨0, rfl, by omega, Lib.hid (Below.refl _ _)⟩
  case round =>
    obtain ⟨k, rfl, hk, HB⟩ := hrel
    have i0 : (0 : Int) ≤ (k : Int) := by omega
    by_cases hk6 : k < 256
    · have i1 : (k : Int) < 256 := by omega
      have i2 : (k : Int) ≤ 255 := by omega
      obtain ⟨t1, ht1⟩ := text_mk (Qt.sgn (UInt8.ofNat k))
      have HT1 := Lib.hid ht1
      have l2 := (Qt.sgn_all (UInt8.ofNat k)).2.2
      have l1 := size_of ht1
      rw [← l1] at l2
      have t0 : 0 < t1.size := by omega
      clear ht1 l1
      have hne : Qt.sgn (UInt8.ofNat k) ≠ [(92 : UInt8), s[1]] := fun e => by
        have h2 := (sgn_two _ _).1 e
        rw [HD.out.1] at h2
        cases h2
      have hcase := two_cases t1 u s[1] t0 (by rw [HT1.out]; exact hne) HU.out
      clear hne
      rcases hcase.out with g1 | ⟨g1, g2⟩ | ⟨g1, g2, g3⟩
      all_goals
        clear hcase
        go_wp2_with (go_at_call 32; refine (qr_sign_nat k (by omega) t1 HT1.out _).mono ?_; rintro e w2 ⟨rfl, hb2⟩; have HB2 : Hid (Below w.heap.size w w2) := Lib.hid (HB.out.trans (hb2.mono HB.out.size)); clear hb2)
        go_roundw
        case rel => exact ⟨k + 1, by go_num, by omega, HB2⟩
        case measure => simp [intOf]; omega
    · have i1 : ¬ (k : Int) < 256 := by omega
      go_wp2
      go_loop [7, 8] (fun n i => n = .int .i64 0 ∧ i = .int .i64 2 ∨ n = .int .i64 x ∧ i = .int .i64 3) (fun _ i => 4 - (intOf i).toNat)
      case atStart => exact Or.inl ⟨rfl, rfl⟩
      case round =>
        rcases hrel with ⟨rfl, rfl⟩ | ⟨rfl, rfl⟩
        · go_wp2_with (go_at_call 43; with_reducible refine (qr_value_yes _ x HV.out _).mono ?_; rintro e w2 ⟨rfl, rfl⟩)
          go_round
          case rel => exact Or.inr ⟨rfl, rfl⟩
          case measure => simp [intOf]
        · go_wp2_with (go_at_call 43; with_reducible refine (qr_value_no _ HW.out _).mono ?_; rintro e w2 ⟨rfl, rfl⟩)
          go_ret3
          exact ⟨rfl, HB.out⟩
set_option maxRecDepth 20000 in
set_option maxHeartbeats 2000000 in
theorem o1_x4 (s : ByteArray) (h0 : 0 < s.size) (h1 : 1 < s.size) (hs : s.size ≤ 1000000) (h92 : s[0] = 92) (hd : Qt.esc s[1] = none) (hx : (s[1].toNat : Int) = 120) (h2 : 2 < s.size) (h3 : 3 < s.size) (x y : Nat) (hv : Qt.val s[2] = some x) (hw : Qt.val s[3] = some y) (w : World) :
    Calls Tryd.prog 35 #[.string s] w fun e w' => e = .returned (.tuple #[.int .u8 (16 * (x : Int) + y), .int .i64 4, .bool true]) ∧ Below w.heap.size w w' := by
  have e3 : ((3 : Int) == (s.size : Int)) = false := by rw [beq_eq_false_iff_ne]; omega
  have e2 : ((2 : Int) == (s.size : Int)) = false := by rw [beq_eq_false_iff_ne]; omega
  have hxx := val_le hv
  have HV := Lib.hid hv
  clear hv
  have hyy := val_le hw
  have HW := Lib.hid hw
  clear hw
  have he := ne_empty s h0
  have h92' : (s[0].toNat : Int) = 92 := by rw [h92]; rfl
  have hsz1 : ((s.size : Int) == 1) = false := by rw [beq_eq_false_iff_ne]; omega
  obtain ⟨u, hu⟩ : ∃ u, s.extract 0 2 = u := ⟨_, rfl⟩
  have HU : Hid (u.data.toList = [(92 : UInt8), s[1]]) := Lib.hid (by rw [one_ext h1 hu, h92])
  have HD := Lib.hid (And.intro hd h92)
  clear hd h92
  go_enter Tryd.func35, Tryd.ntmps35
  go_wp2
  go_loopw [5] (fun i wr => ∃ k : Nat, i = .int .i64 k ∧ k ≤ 256 ∧ Hid (Below w.heap.size w wr)) (fun i _ => 256 - (intOf i).toNat)
  case atStart => exact ⟨0, rfl, by omega, Lib.hid (Below.refl _ _)⟩
  case round =>
    obtain ⟨k, rfl, hk, HB⟩ := hrel
    have i0 : (0 : Int) ≤ (k : Int) := by omega
    by_cases hk6 : k < 256
    · have i1 : (k : Int) < 256 := by omega
      have i2 : (k : Int) ≤ 255 := by omega
      obtain ⟨t1, ht1⟩ := text_mk (Qt.sgn (UInt8.ofNat k))
      have HT1 := Lib.hid ht1
      have l2 := (Qt.sgn_all (UInt8.ofNat k)).2.2
      have l1 := size_of ht1
      rw [← l1] at l2
      have t0 : 0 < t1.size := by omega
      clear ht1 l1
      have hne : Qt.sgn (UInt8.ofNat k) ≠ [(92 : UInt8), s[1]] := fun e => by
        have h2 := (sgn_two _ _).1 e
        rw [HD.out.1] at h2
        cases h2
      have hcase := two_cases t1 u s[1] t0 (by rw [HT1.out]; exact hne) HU.out
      clear hne
      rcases hcase.out with g1 | ⟨g1, g2⟩ | ⟨g1, g2, g3⟩
      all_goals
        clear hcase
        go_wp2_with (go_at_call 32; refine (qr_sign_nat k (by omega) t1 HT1.out _).mono ?_; rintro e w2 ⟨rfl, hb2⟩; have HB2 : Hid (Below w.heap.size w w2) := Lib.hid (HB.out.trans (hb2.mono HB.out.size)); clear hb2)
        go_roundw
        case rel => exact ⟨k + 1, by go_num, by omega, HB2⟩
        case measure => simp [intOf]; omega
    · have i1 : ¬ (k : Int) < 256 := by omega
      go_wp2
      go_loop [7, 8] (fun n i => n = .int .i64 0 ∧ i = .int .i64 2 ∨ n = .int .i64 x ∧ i = .int .i64 3 ∨ n = .int .i64 (16 * (x : Int) + y) ∧ i = .int .i64 4) (fun _ i => 4 - (intOf i).toNat)
      case atStart => exact Or.inl ⟨rfl, rfl⟩
      case round =>
        rcases hrel with ⟨rfl, rfl⟩ | ⟨rfl, rfl⟩ | ⟨rfl, rfl⟩
        · go_wp2_with (go_at_call 43; with_reducible refine (qr_value_yes _ x HV.out _).mono ?_; rintro e w2 ⟨rfl, rfl⟩)
          go_round
          case rel => exact Or.inr (Or.inl ⟨rfl, rfl⟩)
          case measure => simp [intOf]
        · go_wp2_with (go_at_call 43; with_reducible refine (qr_value_yes _ y HW.out _).mono ?_; rintro e w2 ⟨rfl, rfl⟩)
          go_round
          case rel => exact Or.inr (Or.inr ⟨rfl, rfl⟩)
          case measure => simp [intOf]
        · go_wp2
          go_ret3
          exact ⟨rfl, HB.out⟩
theorem o1_any (s : ByteArray) (hs : s.size ≤ 1000000) (b : UInt8) (n : Nat) (ok : Bool) (ho : Qt.one s.data.toList = (b, n, ok)) (w : World) :
    Calls Tryd.prog 35 #[.string s] w fun en w' => en = .returned (.tuple #[.int .u8 b.toNat, .int .i64 n, .bool ok]) ∧ Below w.heap.size w w' := by
  by_cases h0 : 0 < s.size
  · rw [list_of s h0] at ho
    unfold Qt.one at ho
    simp only at ho
    by_cases g1 : s[0].toNat < 32 ∨ 126 < s[0].toNat ∨ s[0] = 34
    · rw [if_pos g1] at ho
      simp only [Prod.mk.injEq] at ho
      obtain ⟨rfl, rfl, rfl⟩ := ho
      refine o1_no s h0 hs ?_ w
      rcases g1 with g | g | g
      · left; omega
      · right; left; omega
      · right; right; rw [g]; rfl
    · rw [if_neg g1] at ho
      simp only [not_or] at g1
      by_cases g2 : s[0] = 92
      · rw [if_neg (by simpa using g2)] at ho
        by_cases h1 : 1 < s.size
        · rw [drop_cons s 1 h1] at ho
          simp only at ho
          cases hd : Qt.esc s[1] with
          | some x =>
            simp only [hd, Prod.mk.injEq] at ho
            obtain ⟨rfl, rfl, rfl⟩ := ho
            exact o1_esc s h0 h1 hs g2 _ hd w
          | none =>
            simp only [hd] at ho
            by_cases g3 : s[1] = 120
            · have hx : (s[1].toNat : Int) = 120 := by rw [g3]; rfl
              rw [if_pos g3] at ho
              by_cases h3 : 2 < s.size
              · rw [drop_cons s 2 h3] at ho
                unfold Qt.digs at ho
                cases hv : Qt.val s[2] with
                | none =>
                  simp only [hv, Prod.mk.injEq] at ho
                  obtain ⟨rfl, rfl, rfl⟩ := ho
                  exact o1_x2n s h0 h1 hs g2 hd hx h3 hv w
                | some x =>
                  simp only [hv] at ho
                  by_cases h4 : 3 < s.size
                  · rw [drop_cons s 3 h4] at ho
                    cases hw : Qt.val s[3] with
                    | none =>
                      simp only [hw, Prod.mk.injEq] at ho
                      obtain ⟨rfl, rfl, rfl⟩ := ho
                      exact o1_x3n s h0 h1 hs g2 hd hx h3 h4 x hv hw w
                    | some y =>
                      simp only [hw, Prod.mk.injEq] at ho
                      obtain ⟨rfl, rfl, rfl⟩ := ho
                      have hx1 := val_le hv
                      have hy1 := val_le hw
                      have e1 : ((UInt8.ofNat (16 * x + y)).toNat : Int) = 16 * (x : Int) + y := by
                        rw [UInt8.toNat_ofNat']; omega
                      rw [e1]
                      exact o1_x4 s h0 h1 hs g2 hd hx h3 h4 x y hv hw w
                  · rw [drop_end s 3 (by omega)] at ho
                    simp only [Prod.mk.injEq] at ho
                    obtain ⟨rfl, rfl, rfl⟩ := ho
                    exact o1_x3 s h0 h1 hs g2 hd hx h3 (by omega) x hv w
              · rw [drop_end s 2 (by omega)] at ho
                simp only [Qt.digs, Prod.mk.injEq] at ho
                obtain ⟨rfl, rfl, rfl⟩ := ho
                exact o1_x2 s h0 h1 hs g2 hd hx (by omega) w
            · rw [if_neg g3] at ho
              simp only [Prod.mk.injEq] at ho
              obtain ⟨rfl, rfl, rfl⟩ := ho
              exact o1_bad s h0 h1 hs g2 hd (u8_ne g3 _ rfl) w
        · rw [drop_end s 1 (by omega)] at ho
          simp only [Prod.mk.injEq] at ho
          obtain ⟨rfl, rfl, rfl⟩ := ho
          exact o1_one s h0 (by omega) (by rw [g2]; rfl) w
      · rw [if_pos g2] at ho
        simp only [Prod.mk.injEq] at ho
        obtain ⟨rfl, rfl, rfl⟩ := ho
        exact o1_plain s h0 hs (by omega) (by omega) (u8_ne g1.2.2 _ rfl) (u8_ne g2 _ rfl) w
  · have hsz : s.data.toList.length = s.size := by simp
    have hs0 : s = ⟨#[]⟩ := text_ext (List.eq_nil_of_length_eq_zero (by omega))
    subst hs0
    simp only [Qt.one, Prod.mk.injEq] at ho
    obtain ⟨rfl, rfl, rfl⟩ := ho
    exact o1_empty w
end Go.Proofs.YtopiiehdgknmgaaDoor
