/- Ticks as texts: the document's Parse. -/
import Derived.Test.YtfhbaemakaicnaaDoorTx2
namespace Go.Proofs.YtfhbaemakaicnaaDoor
open Go.ChangeShapes Go.WideShapes Go.ChangeAt Go.RowKit
set_option linter.unusedSimpArgs false
set_option linter.unusedVariables false
set_option maxRecDepth 20000 in
set_option maxHeartbeats 16000000 in
theorem tr_parse (s : ByteArray) (t : List UInt8) (ht : s.data.toList = t) (hs : s.size ≤ maxLen) (m e : Int) (hr : Tx.parse t = (m, e)) (w : World) : Calls Tryd.prog 6 #[.string s] w fun e0 w' => e0 = .returned (.tuple #[.int .i64 m, .int .i64 e]) ∧ Below w.heap.size w w' := by
  have hm : maxLen ≤ 9223372036854775807 := by unfold maxLen; omega
  unfold Tx.parse at hr
  by_cases h1 : t = Tx.nev
  · rw [if_pos h1] at hr
    obtain rfl : s = ⟨#[110, 101, 118, 101, 114]⟩ := by
      cases s with | mk d => 
        congr 1
        apply Array.ext'
        exact ht.trans h1
    injection hr with h3 h4
    subst h3
    subst h4
    clear h1 ht
    go_enter Tryd.func6, Tryd.ntmps6
    go_wp2_with fail
    go_ret2
    exact ⟨rfl, Below.refl _ _⟩
  · rw [if_neg h1] at hr
    have n2 : (s.toList == [110, 101, 118, 101, 114]) = false := by rw [Lib.toList_data, ht, beq_eq_false_iff_ne]; exact h1
    by_cases h0 : 0 < s.size
    · have he1 := txn_full h0
      have i0 : (0 : Int) < (s.size : Int) := by omega
      have hl : t.length = s.size := by rw [← ht]; simp
      have hz : t[0]? = some s[0] := by rw [← ht, txn_list s h0]; rfl
      have HL := Lib.hid (And.intro ht hl)
      by_cases h1 : 1 < s.size
      · have i1 : (1 : Int) < (s.size : Int) := by omega
        by_cases h48 : s[0].toNat = 48
        · have c1 : (s[0].toNat : Int) = 48 := by omega
          have c2 : ((s[0].toNat : Int) == 48) = true := by rw [c1]; rfl
          have hpl : Tx.plain t = false := by
            unfold Tx.plain
            rw [Tx.head_two (by omega) hz, byte48.1 h48]; rfl
          rw [if_pos hpl] at hr
          injection hr with h3 h4
          subst h3
          subst h4
          clear ht hl hz HL h48 hpl
          go_enter Tryd.func6, Tryd.ntmps6
          go_wp2_with fail
          go_ret2
          exact ⟨rfl, Below.refl _ _⟩
        · have c1 : ¬ (s[0].toNat : Int) = 48 := by omega
          have c2 : ((s[0].toNat : Int) == 48) = false := by rw [beq_eq_false_iff_ne]; exact c1
          have HS := Lib.hid (And.intro hr (show Tx.head t = true by rw [Tx.head_two (by omega) hz]; rw [Bool.not_eq_true', beq_eq_false_iff_ne]; exact fun e => h48 (byte48.2 e)))
          clear hr ht hl hz h48
          go_enter Tryd.func6, Tryd.ntmps6
          go_wp2_with fail
          go_loopw [4, 5, 6, 7] (fun nv bv i _ wr => ∃ (k n : Nat) (big : Bool), nv = .int .i64 n ∧ bv = .bool big ∧ i = .int .i64 k ∧ k ≤ s.size ∧ Hid (n < 9223372036854775807 ∧ (if big = true then 9223372036854775807 ≤ Tx.val (t.take k) else Tx.val (t.take k) = n) ∧ ∀ j c, j < k → t[j]? = some c → Tx.dig c = true) ∧ Hid (Below w.heap.size w wr)) (fun _ _ i _ _ => s.size - (intOf i).toNat)
          case atStart => exact ⟨0, 0, false, rfl, rfl, rfl, by omega, Lib.hid ⟨by omega, by rw [if_neg (by simp), List.take_zero, Tx.val_nil], fun j c hj => by omega⟩, Lib.hid (Below.refl _ _)⟩
          case round =>
            obtain ⟨k, n, big, rfl, rfl, rfl, hk, HK, HB⟩ := hrel
            have k0 : (0 : Int) ≤ (k : Int) := by omega
            by_cases hks : k < s.size
            · have kI : (k : Int) < (s.size : Int) := by omega
              obtain ⟨b, hb⟩ : ∃ b, s[k] = b := ⟨_, rfl⟩
              have hbl : t[k]? = some b := by rw [← HL.out.1, ← hb, List.getElem?_eq_getElem (by simpa using hks)]; rfl
              obtain ⟨x, hxn⟩ : ∃ x, b.toNat = x := ⟨_, rfl⟩
              have cb : (s[k].toNat : Int) = (x : Int) := by rw [hb, hxn]
              have w1 : IntKind.i64.wrap ((k : Int) + 1) = (k : Int) + 1 := IntWalk.i64_in _ (by omega)
              clear hb
              by_cases a1 : 48 ≤ x
              · have j1 : ¬ (x : Int) < 48 := by omega
                by_cases a2 : x ≤ 57
                · have j2 : ¬ (57 : Int) < (x : Int) := by omega
                  have HX : Hid (t[k]? = some b ∧ Tx.dig b = true ∧ b.toNat = x) := Lib.hid ⟨hbl, by unfold Tx.dig; rw [hxn]; simp; omega, hxn⟩
                  clear hbl hxn
                  have hdg : 48 ≤ x ∧ x ≤ 57 := ⟨a1, a2⟩
                  obtain ⟨d, hd⟩ : ∃ d, x - 48 = d := ⟨_, rfl⟩
                  have hd9 : d ≤ 9 := by omega
                  have d1 : (x : Int) - 48 = (d : Int) := by omega
                  have d2 : IntKind.u8.wrap ((x : Int) - 48) = (d : Int) := by rw [d1]; exact IntWalk.u8_in _ ⟨by omega, by omega⟩
                  have d3 : IntKind.u8.wrap (d : Int) = (d : Int) := IntWalk.u8_in _ ⟨by omega, by omega⟩
                  have d4 : IntKind.i64.wrap (d : Int) = (d : Int) := IntWalk.i64_in _ ⟨by omega, by omega⟩
                  have hst := Tx.val_step HX.out.1
                  rw [HX.out.2.2, hd] at hst
                  have HST : Hid (Tx.val (t.take (k + 1)) = 10 * Tx.val (t.take k) + d ∧ ∀ j c, j < k + 1 → t[j]? = some c → Tx.dig c = true) := Lib.hid ⟨hst, fun j c hj hc => by
                    by_cases e : j = k
                    · rw [e, HX.out.1] at hc; injection hc with hc; rw [← hc]; exact HX.out.2.1
                    · exact HK.out.2.2 j c (by omega) hc⟩
                  clear hst hd
                  by_cases hb : big = true
                  · subst hb
                    have HK2 : Hid (n < 9223372036854775807 ∧ (if true = true then 9223372036854775807 ≤ Tx.val (t.take (k + 1)) else Tx.val (t.take (k + 1)) = n) ∧ ∀ j c, j < k + 1 → t[j]? = some c → Tx.dig c = true) := Lib.hid ⟨HK.out.1, by
                      have h1 := HK.out.2.1
                      rw [if_pos rfl] at h1 ⊢
                      rw [HST.out.1]; omega, HST.out.2⟩
                    clear HK HST
                    go_wp2
                    refine ⟨?_, ?measure⟩
                    case measure => simp [intOf]; omega
                    first
                      | exact ⟨k + 1, n, true, rfl, rfl, by go_num, by omega, HK2, HB⟩
                      | ((repeat apply Exists.intro); exact ⟨⟨k + 1, n, true, rfl, rfl, by go_num, by omega, HK2, HB⟩, rfl⟩)
                  · obtain rfl : big = false := by cases big with
                      | true => exact absurd rfl hb
                      | false => rfl
                    have e1 : IntKind.i64.wrap (9223372036854775806 - (d : Int)) = 9223372036854775806 - (d : Int) := IntWalk.i64_in _ ⟨by omega, by omega⟩
                    have e2 : (9223372036854775806 - (d : Int)).tdiv 10 = (9223372036854775806 - (d : Int)) / 10 := Int.tdiv_eq_ediv_of_nonneg (by omega)
                    have e3 : IntKind.i64.wrap ((9223372036854775806 - (d : Int)) / 10) = (9223372036854775806 - (d : Int)) / 10 := IntWalk.i64_in _ ⟨by omega, by omega⟩
                    have hn := HK.out.1
                    by_cases hbig : 10 * n + d < 9223372036854775807
                    · have q1 : ¬ (9223372036854775806 - (d : Int)) / 10 < (n : Int) := by omega
                      have m1 : IntKind.i64.wrap (10 * (n : Int)) = 10 * (n : Int) := IntWalk.i64_in _ ⟨by omega, by omega⟩
                      obtain ⟨q, hq⟩ : ∃ q, 10 * n + d = q := ⟨_, rfl⟩
                      have m2 : 10 * (n : Int) + (d : Int) = (q : Int) := by omega
                      have m3 : IntKind.i64.wrap (10 * (n : Int) + (d : Int)) = (q : Int) := by rw [m2]; exact IntWalk.i64_in _ ⟨by omega, by omega⟩
                      have m4 : IntKind.i64.wrap (q : Int) = (q : Int) := IntWalk.i64_in _ ⟨by omega, by omega⟩
                      have HK2 : Hid (q < 9223372036854775807 ∧ (if false = true then 9223372036854775807 ≤ Tx.val (t.take (k + 1)) else Tx.val (t.take (k + 1)) = q) ∧ ∀ j c, j < k + 1 → t[j]? = some c → Tx.dig c = true) := Lib.hid ⟨by omega, by
                        have h1 := HK.out.2.1
                        rw [if_neg (by simp)] at h1 ⊢
                        rw [HST.out.1, h1, hq], HST.out.2⟩
                      clear HK HST hq
                      go_wp2
                      refine ⟨?_, ?measure⟩
                      case measure => simp [intOf]; omega
                      first
                        | exact ⟨k + 1, q, false, rfl, rfl, by go_num, by omega, HK2, HB⟩
                        | ((repeat apply Exists.intro); exact ⟨⟨k + 1, q, false, rfl, rfl, by go_num, by omega, HK2, HB⟩, rfl⟩)
                    · have q1 : (9223372036854775806 - (d : Int)) / 10 < (n : Int) := by omega
                      have HK2 : Hid (n < 9223372036854775807 ∧ (if true = true then 9223372036854775807 ≤ Tx.val (t.take (k + 1)) else Tx.val (t.take (k + 1)) = n) ∧ ∀ j c, j < k + 1 → t[j]? = some c → Tx.dig c = true) := Lib.hid ⟨by omega, by
                        have h1 := HK.out.2.1
                        rw [if_neg (by simp)] at h1
                        rw [if_pos rfl, HST.out.1, h1]; omega, HST.out.2⟩
                      clear HK HST
                      go_wp2
                      refine ⟨?_, ?measure⟩
                      case measure => simp [intOf]; omega
                      first
                        | exact ⟨k + 1, n, true, rfl, rfl, by go_num, by omega, HK2, HB⟩
                        | ((repeat apply Exists.intro); exact ⟨⟨k + 1, n, true, rfl, rfl, by go_num, by omega, HK2, HB⟩, rfl⟩)
                · have j2 : (57 : Int) < (x : Int) := by omega
                  have HX : Hid (t[k]? = some b ∧ Tx.dig b = false) := Lib.hid ⟨hbl, by unfold Tx.dig; rw [hxn]; simp; try omega⟩
                  clear hbl hxn
                  have HE : Hid (m = 0 ∧ e = 2) := Lib.hid (by
                    have h2 := HS.out.1
                    rw [if_pos (Tx.plain_not HX.out.1 HX.out.2)] at h2
                    injection h2 with h3 h4
                    exact ⟨h3.symm, h4.symm⟩)
                  go_wp2
                  go_ret2
                  obtain ⟨rfl, rfl⟩ := HE.out
                  exact ⟨rfl, HB.out⟩
              · have j1 : (x : Int) < 48 := by omega
                have HX : Hid (t[k]? = some b ∧ Tx.dig b = false) := Lib.hid ⟨hbl, by unfold Tx.dig; rw [hxn]; simp; try omega⟩
                clear hbl hxn
                have HE : Hid (m = 0 ∧ e = 2) := Lib.hid (by
                  have h2 := HS.out.1
                  rw [if_pos (Tx.plain_not HX.out.1 HX.out.2)] at h2
                  injection h2 with h3 h4
                  exact ⟨h3.symm, h4.symm⟩)
                go_wp2
                go_ret2
                obtain ⟨rfl, rfl⟩ := HE.out
                exact ⟨rfl, HB.out⟩
            · have kI : ¬ (k : Int) < (s.size : Int) := by omega
              have HP : Hid (Tx.plain t = true) := Lib.hid (Tx.plain_all HS.out.2 (fun j c hj hc => HK.out.2.2 j c (by have := HL.out.2; omega) hc))
              have hv := HK.out.2.1
              rw [List.take_of_length_le (by have := HL.out.2; omega)] at hv
              have h2 := HS.out.1
              rw [if_neg (by rw [HP.out]; simp)] at h2
              cases big with
              | true =>
                rw [if_pos rfl] at hv
                rw [if_neg (by omega)] at h2
                have HE : Hid (m = 0 ∧ e = 12) := Lib.hid (by injection h2 with h3 h4; exact ⟨h3.symm, h4.symm⟩)
                clear h2 hv
                go_wp2
                go_ret2
                obtain ⟨rfl, rfl⟩ := HE.out
                exact ⟨rfl, HB.out⟩
              | false =>
                rw [if_neg (by simp)] at hv
                have hn := HK.out.1
                rw [hv, if_pos hn] at h2
                have HE : Hid (m = (n : Int) ∧ e = 0) := Lib.hid (by injection h2 with h3 h4; exact ⟨h3.symm, h4.symm⟩)
                clear h2 hv hn
                go_wp2
                go_ret2
                obtain ⟨rfl, rfl⟩ := HE.out
                exact ⟨rfl, HB.out⟩
      · have i1 : ¬ (1 : Int) < (s.size : Int) := by omega
        have HS := Lib.hid (And.intro hr (show Tx.head t = true from Tx.head_one (by omega)))
        clear hr ht hl hz
        go_enter Tryd.func6, Tryd.ntmps6
        go_wp2_with fail
        go_loopw [4, 5, 6, 7] (fun nv bv i _ wr => ∃ (k n : Nat) (big : Bool), nv = .int .i64 n ∧ bv = .bool big ∧ i = .int .i64 k ∧ k ≤ s.size ∧ Hid (n < 9223372036854775807 ∧ (if big = true then 9223372036854775807 ≤ Tx.val (t.take k) else Tx.val (t.take k) = n) ∧ ∀ j c, j < k → t[j]? = some c → Tx.dig c = true) ∧ Hid (Below w.heap.size w wr)) (fun _ _ i _ _ => s.size - (intOf i).toNat)
        case atStart => exact ⟨0, 0, false, rfl, rfl, rfl, by omega, Lib.hid ⟨by omega, by rw [if_neg (by simp), List.take_zero, Tx.val_nil], fun j c hj => by omega⟩, Lib.hid (Below.refl _ _)⟩
        case round =>
          obtain ⟨k, n, big, rfl, rfl, rfl, hk, HK, HB⟩ := hrel
          have k0 : (0 : Int) ≤ (k : Int) := by omega
          by_cases hks : k < s.size
          · have kI : (k : Int) < (s.size : Int) := by omega
            obtain ⟨b, hb⟩ : ∃ b, s[k] = b := ⟨_, rfl⟩
            have hbl : t[k]? = some b := by rw [← HL.out.1, ← hb, List.getElem?_eq_getElem (by simpa using hks)]; rfl
            obtain ⟨x, hxn⟩ : ∃ x, b.toNat = x := ⟨_, rfl⟩
            have cb : (s[k].toNat : Int) = (x : Int) := by rw [hb, hxn]
            have w1 : IntKind.i64.wrap ((k : Int) + 1) = (k : Int) + 1 := IntWalk.i64_in _ (by omega)
            clear hb
            by_cases a1 : 48 ≤ x
            · have j1 : ¬ (x : Int) < 48 := by omega
              by_cases a2 : x ≤ 57
              · have j2 : ¬ (57 : Int) < (x : Int) := by omega
                have HX : Hid (t[k]? = some b ∧ Tx.dig b = true ∧ b.toNat = x) := Lib.hid ⟨hbl, by unfold Tx.dig; rw [hxn]; simp; omega, hxn⟩
                clear hbl hxn
                have hdg : 48 ≤ x ∧ x ≤ 57 := ⟨a1, a2⟩
                obtain ⟨d, hd⟩ : ∃ d, x - 48 = d := ⟨_, rfl⟩
                have hd9 : d ≤ 9 := by omega
                have d1 : (x : Int) - 48 = (d : Int) := by omega
                have d2 : IntKind.u8.wrap ((x : Int) - 48) = (d : Int) := by rw [d1]; exact IntWalk.u8_in _ ⟨by omega, by omega⟩
                have d3 : IntKind.u8.wrap (d : Int) = (d : Int) := IntWalk.u8_in _ ⟨by omega, by omega⟩
                have d4 : IntKind.i64.wrap (d : Int) = (d : Int) := IntWalk.i64_in _ ⟨by omega, by omega⟩
                have hst := Tx.val_step HX.out.1
                rw [HX.out.2.2, hd] at hst
                have HST : Hid (Tx.val (t.take (k + 1)) = 10 * Tx.val (t.take k) + d ∧ ∀ j c, j < k + 1 → t[j]? = some c → Tx.dig c = true) := Lib.hid ⟨hst, fun j c hj hc => by
                  by_cases e : j = k
                  · rw [e, HX.out.1] at hc; injection hc with hc; rw [← hc]; exact HX.out.2.1
                  · exact HK.out.2.2 j c (by omega) hc⟩
                clear hst hd
                by_cases hb : big = true
                · subst hb
                  have HK2 : Hid (n < 9223372036854775807 ∧ (if true = true then 9223372036854775807 ≤ Tx.val (t.take (k + 1)) else Tx.val (t.take (k + 1)) = n) ∧ ∀ j c, j < k + 1 → t[j]? = some c → Tx.dig c = true) := Lib.hid ⟨HK.out.1, by
                    have h1 := HK.out.2.1
                    rw [if_pos rfl] at h1 ⊢
                    rw [HST.out.1]; omega, HST.out.2⟩
                  clear HK HST
                  go_wp2
                  refine ⟨?_, ?measure⟩
                  case measure => simp [intOf]; omega
                  first
                    | exact ⟨k + 1, n, true, rfl, rfl, by go_num, by omega, HK2, HB⟩
                    | ((repeat apply Exists.intro); exact ⟨⟨k + 1, n, true, rfl, rfl, by go_num, by omega, HK2, HB⟩, rfl⟩)
                · obtain rfl : big = false := by cases big with
                    | true => exact absurd rfl hb
                    | false => rfl
                  have e1 : IntKind.i64.wrap (9223372036854775806 - (d : Int)) = 9223372036854775806 - (d : Int) := IntWalk.i64_in _ ⟨by omega, by omega⟩
                  have e2 : (9223372036854775806 - (d : Int)).tdiv 10 = (9223372036854775806 - (d : Int)) / 10 := Int.tdiv_eq_ediv_of_nonneg (by omega)
                  have e3 : IntKind.i64.wrap ((9223372036854775806 - (d : Int)) / 10) = (9223372036854775806 - (d : Int)) / 10 := IntWalk.i64_in _ ⟨by omega, by omega⟩
                  have hn := HK.out.1
                  by_cases hbig : 10 * n + d < 9223372036854775807
                  · have q1 : ¬ (9223372036854775806 - (d : Int)) / 10 < (n : Int) := by omega
                    have m1 : IntKind.i64.wrap (10 * (n : Int)) = 10 * (n : Int) := IntWalk.i64_in _ ⟨by omega, by omega⟩
                    obtain ⟨q, hq⟩ : ∃ q, 10 * n + d = q := ⟨_, rfl⟩
                    have m2 : 10 * (n : Int) + (d : Int) = (q : Int) := by omega
                    have m3 : IntKind.i64.wrap (10 * (n : Int) + (d : Int)) = (q : Int) := by rw [m2]; exact IntWalk.i64_in _ ⟨by omega, by omega⟩
                    have m4 : IntKind.i64.wrap (q : Int) = (q : Int) := IntWalk.i64_in _ ⟨by omega, by omega⟩
                    have HK2 : Hid (q < 9223372036854775807 ∧ (if false = true then 9223372036854775807 ≤ Tx.val (t.take (k + 1)) else Tx.val (t.take (k + 1)) = q) ∧ ∀ j c, j < k + 1 → t[j]? = some c → Tx.dig c = true) := Lib.hid ⟨by omega, by
                      have h1 := HK.out.2.1
                      rw [if_neg (by simp)] at h1 ⊢
                      rw [HST.out.1, h1, hq], HST.out.2⟩
                    clear HK HST hq
                    go_wp2
                    refine ⟨?_, ?measure⟩
                    case measure => simp [intOf]; omega
                    first
                      | exact ⟨k + 1, q, false, rfl, rfl, by go_num, by omega, HK2, HB⟩
                      | ((repeat apply Exists.intro); exact ⟨⟨k + 1, q, false, rfl, rfl, by go_num, by omega, HK2, HB⟩, rfl⟩)
                  · have q1 : (9223372036854775806 - (d : Int)) / 10 < (n : Int) := by omega
                    have HK2 : Hid (n < 9223372036854775807 ∧ (if true = true then 9223372036854775807 ≤ Tx.val (t.take (k + 1)) else Tx.val (t.take (k + 1)) = n) ∧ ∀ j c, j < k + 1 → t[j]? = some c → Tx.dig c = true) := Lib.hid ⟨by omega, by
                      have h1 := HK.out.2.1
                      rw [if_neg (by simp)] at h1
                      rw [if_pos rfl, HST.out.1, h1]; omega, HST.out.2⟩
                    clear HK HST
                    go_wp2
                    refine ⟨?_, ?measure⟩
                    case measure => simp [intOf]; omega
                    first
                      | exact ⟨k + 1, n, true, rfl, rfl, by go_num, by omega, HK2, HB⟩
                      | ((repeat apply Exists.intro); exact ⟨⟨k + 1, n, true, rfl, rfl, by go_num, by omega, HK2, HB⟩, rfl⟩)
              · have j2 : (57 : Int) < (x : Int) := by omega
                have HX : Hid (t[k]? = some b ∧ Tx.dig b = false) := Lib.hid ⟨hbl, by unfold Tx.dig; rw [hxn]; simp; try omega⟩
                clear hbl hxn
                have HE : Hid (m = 0 ∧ e = 2) := Lib.hid (by
                  have h2 := HS.out.1
                  rw [if_pos (Tx.plain_not HX.out.1 HX.out.2)] at h2
                  injection h2 with h3 h4
                  exact ⟨h3.symm, h4.symm⟩)
                go_wp2
                go_ret2
                obtain ⟨rfl, rfl⟩ := HE.out
                exact ⟨rfl, HB.out⟩
            · have j1 : (x : Int) < 48 := by omega
              have HX : Hid (t[k]? = some b ∧ Tx.dig b = false) := Lib.hid ⟨hbl, by unfold Tx.dig; rw [hxn]; simp; try omega⟩
              clear hbl hxn
              have HE : Hid (m = 0 ∧ e = 2) := Lib.hid (by
                have h2 := HS.out.1
                rw [if_pos (Tx.plain_not HX.out.1 HX.out.2)] at h2
                injection h2 with h3 h4
                exact ⟨h3.symm, h4.symm⟩)
              go_wp2
              go_ret2
              obtain ⟨rfl, rfl⟩ := HE.out
              exact ⟨rfl, HB.out⟩
          · have kI : ¬ (k : Int) < (s.size : Int) := by omega
            have HP : Hid (Tx.plain t = true) := Lib.hid (Tx.plain_all HS.out.2 (fun j c hj hc => HK.out.2.2 j c (by have := HL.out.2; omega) hc))
            have hv := HK.out.2.1
            rw [List.take_of_length_le (by have := HL.out.2; omega)] at hv
            have h2 := HS.out.1
            rw [if_neg (by rw [HP.out]; simp)] at h2
            cases big with
            | true =>
              rw [if_pos rfl] at hv
              rw [if_neg (by omega)] at h2
              have HE : Hid (m = 0 ∧ e = 12) := Lib.hid (by injection h2 with h3 h4; exact ⟨h3.symm, h4.symm⟩)
              clear h2 hv
              go_wp2
              go_ret2
              obtain ⟨rfl, rfl⟩ := HE.out
              exact ⟨rfl, HB.out⟩
            | false =>
              rw [if_neg (by simp)] at hv
              have hn := HK.out.1
              rw [hv, if_pos hn] at h2
              have HE : Hid (m = (n : Int) ∧ e = 0) := Lib.hid (by injection h2 with h3 h4; exact ⟨h3.symm, h4.symm⟩)
              clear h2 hv hn
              go_wp2
              go_ret2
              obtain ⟨rfl, rfl⟩ := HE.out
              exact ⟨rfl, HB.out⟩
    · obtain rfl := txn_none h0
      have hpl : Tx.plain t = false := by rw [← ht]; rfl
      rw [if_pos hpl] at hr
      injection hr with h3 h4
      subst h3
      subst h4
      clear h0 ht hpl
      go_enter Tryd.func6, Tryd.ntmps6
      go_wp2_with fail
      go_ret2
      exact ⟨rfl, Below.refl _ _⟩
end Go.Proofs.YtfhbaemakaicnaaDoor
