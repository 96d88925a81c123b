/- Ticks as texts: count. -/
import Derived.Test.YtfhhkmjjifbfeaaGreatDoorTx2
import Derived.Test.YtfhhkmjjifbfeaaGreatDoorClass
namespace Go.Proofs.YtfhhkmjjifbfeaaGreatDoor
open Go.ChangeShapes Go.WideShapes Go.ChangeAt Go.RowKit
set_option linter.unusedSimpArgs false
set_option linter.unusedVariables false
theorem Tx.count_step (n d : Nat) (hn : n < 9223372036854775807) (hd : d ≤ 9) : Tk.add (Tk.times n 10) d = if 10 * n + d < 9223372036854775807 then ((10 * n + d : Nat) : Int) else 9223372036854775807 := by
  unfold Tk.add Tk.times Tk.sat Tk.own
  split <;> omega
theorem times_z (t n z : Int) (hz : Tk.times t n = z) (ht : t ≤ 9223372036854775807) (hn : -9223372036854775808 ≤ n ∧ n ≤ 9223372036854775807) (w : World) : Calls Tryz.prog 90 #[.int .i64 t, .int .i64 n] w fun e w' => e = .returned (.int .i64 z) ∧ w = w' := by
  rw [← hz]; exact times_any t n ht hn w
theorem add_z (t d z : Int) (hz : Tk.add t d = z) (ht : t ≤ 9223372036854775807) (hd : d ≤ 9223372036854775807) (w : World) : Calls Tryz.prog 89 #[.int .i64 t, .int .i64 d] w fun e w' => e = .returned (.int .i64 z) ∧ w = w' := by
  rw [← hz]; exact add_any t d ht hd w
set_option maxRecDepth 20000 in
set_option maxHeartbeats 4000000 in
theorem tx_count (s : ByteArray) (t : List UInt8) (ht : s.data.toList = t) (hs : s.size ≤ maxLen) (hp : Tx.plain t = true) (m e : Int) (hr : (if Tx.val t < 9223372036854775807 then ((Tx.val t : Int), 0) else (0, (12 : Int))) = (m, e)) (w : World) : Calls Tryz.prog 72 #[.string s] w fun e0 w' => e0 = .returned (.tuple #[.int .i64 m, .int .i64 e]) ∧ Below w.heap.size w w' := by
  have hm : maxLen ≤ 9223372036854775807 := by unfold maxLen; omega
  have hl : t.length = s.size := by rw [← ht]; simp
  have HL := Lib.hid (And.intro ht hl)
  have HS := Lib.hid (And.intro hr hp)
  clear hr ht hl hp
  go_enter Tryz.func72, Tryz.ntmps72
  go_wp2_with fail
  go_loopw [4, 5, 8] (fun nv _ i wr => ∃ k n : Nat, nv = .int .i64 n ∧ i = .int .i64 k ∧ k ≤ s.size ∧ n < 9223372036854775807 ∧ Hid (Tx.val (t.take k) = n) ∧ Hid (Below w.heap.size w wr)) (fun _ _ i _ => s.size - (intOf i).toNat)
  case atStart => exact ⟨0, 0, rfl, rfl, by omega, by omega, Lib.hid (by rw [List.take_zero, Tx.val_nil]), Lib.hid (Below.refl _ _)⟩
  case round =>
    obtain ⟨k, n, rfl, rfl, hk, hn, HK, HB⟩ := hrel
    have k0 : (0 : Int) ≤ (k : Int) := by omega
    by_cases hks : k < s.size
    · have kI : (k : Int) < (s.size : Int) := by omega
      obtain ⟨b, hb⟩ : ∃ b, s[k] = b := ⟨_, rfl⟩
      have hbl : t[k]? = some b := by rw [← HL.out.1, ← hb, List.getElem?_eq_getElem (by simpa using hks)]; rfl
      obtain ⟨x, hxn⟩ : ∃ x, b.toNat = x := ⟨_, rfl⟩
      have cb : (s[k].toNat : Int) = (x : Int) := by rw [hb, hxn]
      have w1 : IntKind.i64.wrap ((k : Int) + 1) = (k : Int) + 1 := IntWalk.i64_in _ (by omega)
      clear hb
      have hdg := Tx.plain_dig HS.out.2 hbl
      rw [hxn] at hdg
      obtain ⟨d, hd⟩ : ∃ d, x - 48 = d := ⟨_, rfl⟩
      have hd9 : d ≤ 9 := by omega
      have d1 : (x : Int) - 48 = (d : Int) := by omega
      have d2 : IntKind.u8.wrap ((x : Int) - 48) = (d : Int) := by rw [d1]; exact IntWalk.u8_in _ ⟨by omega, by omega⟩
      have d3 : IntKind.u8.wrap (d : Int) = (d : Int) := IntWalk.u8_in _ ⟨by omega, by omega⟩
      have d4 : IntKind.i64.wrap (d : Int) = (d : Int) := IntWalk.i64_in _ ⟨by omega, by omega⟩
      have hst := Tx.val_step hbl
      rw [HK.out, hxn, hd] at hst
      obtain ⟨z, hz⟩ : ∃ z : Int, Tk.times n 10 = z := ⟨_, rfl⟩
      have hzb : 0 ≤ z ∧ z ≤ 9223372036854775807 := by rw [← hz]; exact ⟨Tk.times_nn _ _, Tk.times_le _ _⟩
      have hcs := Tx.count_step n d hn hd9
      rw [hz] at hcs
      by_cases hbig : 10 * n + d < 9223372036854775807
      · rw [if_pos hbig] at hcs
        obtain ⟨q, hq⟩ : ∃ q, 10 * n + d = q := ⟨_, rfl⟩
        rw [hq] at hcs hbig hst
        have hb0 : ¬ (q : Int) = 9223372036854775807 := by omega
        have hb1 : ((q : Int) == 9223372036854775807) = false := by rw [beq_eq_false_iff_ne]; exact hb0
        have HX : Hid (Tx.val (t.take (k + 1)) = q ∧ Tk.times n 10 = z ∧ Tk.add z d = (q : Int)) := Lib.hid ⟨hst, hz, hcs⟩
        clear hbl hxn hst hz hcs hdg hd hq
        go_upto_region 5 with fail
        refine wp_region_class (fun w' => Below w.heap.size w w') (by kernel_rfl) (by kernel_rfl) HB.out.drew ?_
        repeat (first
          | go_big_quiet_skip
          | (go_big_quiet_want
             unfold Oper.quiet
             apply Exists.intro
             refine ⟨fun wq hwq => ?_, ?_⟩
             · (unfold Oper.quietAt
                go_simp
                first
                  | exact ⟨rfl, hwq⟩
                  | exact rfl
                  | (go_at_call 90; (with_reducible refine (times_z n 10 z HX.out.2.1 (by omega) (by omega) wq).mono ?_); rintro e1 w1 ⟨rfl, rfl⟩; exact ⟨rfl, hwq⟩)
                  | (go_at_call 89; (with_reducible refine (add_z z d _ HX.out.2.2 (by omega) (by omega) wq).mono ?_); rintro e1 w1 ⟨rfl, rfl⟩; exact ⟨rfl, hwq⟩)
                  )
             simp only [Act.put, List.setIfInBounds_toArray, List.set_cons_zero, List.set_cons_succ]
             go_big_quiet_on))
        refine wpQuiet_nil ?_
        intro w4 hw4
        have HB2 := Lib.hid hw4
        clear hw4 HB
        go_wp2
        refine ⟨?_, ?measure⟩
        case measure => simp [intOf]; omega
        first
          | exact ⟨k + 1, q, rfl, by go_num, by omega, hbig, Lib.hid HX.out.1, HB2⟩
          | ((repeat apply Exists.intro); exact ⟨⟨k + 1, q, rfl, by go_num, by omega, hbig, Lib.hid HX.out.1, HB2⟩, rfl⟩)
      · rw [if_neg hbig] at hcs
        have HX : Hid (t[k]? = some b ∧ Tk.times n 10 = z ∧ Tk.add z d = 9223372036854775807) := Lib.hid ⟨hbl, hz, hcs⟩
        have HE : Hid (m = 0 ∧ e = 12) := Lib.hid (by
          have h1 := Tx.val_take t (k + 1)
          rw [hst] at h1
          have h2 := HS.out.1
          rw [if_neg (by omega)] at h2
          injection h2 with h3 h4
          exact ⟨h3.symm, h4.symm⟩)
        clear hbl hxn hst hz hcs hdg hd
        go_upto_region 5 with fail
        refine wp_region_class (fun w' => Below w.heap.size w w') (by kernel_rfl) (by kernel_rfl) HB.out.drew ?_
        repeat (first
          | go_big_quiet_skip
          | (go_big_quiet_want
             unfold Oper.quiet
             apply Exists.intro
             refine ⟨fun wq hwq => ?_, ?_⟩
             · (unfold Oper.quietAt
                go_simp
                first
                  | exact ⟨rfl, hwq⟩
                  | exact rfl
                  | (go_at_call 90; (with_reducible refine (times_z n 10 z HX.out.2.1 (by omega) (by omega) wq).mono ?_); rintro e1 w1 ⟨rfl, rfl⟩; exact ⟨rfl, hwq⟩)
                  | (go_at_call 89; (with_reducible refine (add_z z d _ HX.out.2.2 (by omega) (by omega) wq).mono ?_); rintro e1 w1 ⟨rfl, rfl⟩; exact ⟨rfl, hwq⟩)
                  )
             simp only [Act.put, List.setIfInBounds_toArray, List.set_cons_zero, List.set_cons_succ]
             go_big_quiet_on))
        refine wpQuiet_nil ?_
        intro w4 hw4
        have HB2 := Lib.hid hw4
        clear hw4 HB
        go_wp2
        go_ret2
        obtain ⟨rfl, rfl⟩ := HE.out
        exact ⟨rfl, HB2.out⟩
    · have kI : ¬ (k : Int) < (s.size : Int) := by omega
      have HE : Hid (m = (n : Int) ∧ e = 0) := Lib.hid (by
        have h1 := HK.out
        rw [List.take_of_length_le (by have := HL.out.2; omega)] at h1
        have h2 := HS.out.1
        rw [h1, if_pos hn] at h2
        injection h2 with h3 h4
        exact ⟨h3.symm, h4.symm⟩)
      go_wp2
      go_ret2
      obtain ⟨rfl, rfl⟩ := HE.out
      exact ⟨rfl, HB.out⟩
set_option maxRecDepth 20000 in
set_option maxHeartbeats 4000000 in
theorem tx_parse (s : ByteArray) (t : List UInt8) (ht : s.data.toList = t) (hs : s.size ≤ maxLen) (m e : Int) (hr : Tx.parse t = (m, e)) (w : World) : Calls Tryz.prog 57 #[.string s] w fun e0 w' => e0 = .returned (.tuple #[.int .i64 m, .int .i64 e]) ∧ Below w.heap.size w w' := by
  unfold Tx.parse at hr
  by_cases h1 : t = Tx.nev
  · rw [if_pos h1] at hr
    obtain rfl : s = ⟨#[110, 101, 118, 101, 114]⟩ := by
      cases s with | mk d => 
        congr 1
        apply Array.ext'
        exact ht.trans h1
    injection hr with h3 h4
    subst h3
    subst h4
    clear h1 ht
    go_enter Tryz.func57, Tryz.ntmps57
    go_wp2_with fail
    go_ret2
    exact ⟨rfl, Below.refl _ _⟩
  · rw [if_neg h1] at hr
    have n0 : ¬ s = ⟨#[110, 101, 118, 101, 114]⟩ := fun e => h1 (by rw [← ht, e]; rfl)
    have n1 := txn_ne n0
    have n2 : (s.toList == [110, 101, 118, 101, 114]) = false := by rw [Lib.toList_data, ht, beq_eq_false_iff_ne]; exact h1
    clear n0
    by_cases h2 : Tx.plain t = false
    · rw [if_pos h2] at hr
      injection hr with h3 h4
      subst h3
      subst h4
      have H2 := Lib.hid (And.intro ht h2)
      clear h1 ht h2
      go_enter Tryz.func57, Tryz.ntmps57
      go_wp2_with (go_at_call 71; (with_reducible refine (tx_plain s t H2.out.1 hs false H2.out.2 _).mono ?_); rintro e W1 ⟨rfl, hb1⟩; have HB := Lib.hid hb1; clear hb1)
      go_ret2
      exact ⟨rfl, HB.out⟩
    · rw [if_neg h2] at hr
      have H2 := Lib.hid (And.intro ht (And.intro (show Tx.plain t = true by simpa using h2) hr))
      clear h1 ht h2 hr
      go_enter Tryz.func57, Tryz.ntmps57
      go_wp2_with (first
        | (go_at_call 71; (with_reducible refine (tx_plain s t H2.out.1 hs true H2.out.2.1 _).mono ?_); rintro e1 W1 ⟨rfl, hb1⟩; have HB := Lib.hid hb1; clear hb1)
        | (go_at_call 72; (with_reducible refine (tx_count s t H2.out.1 hs H2.out.2.1 m e H2.out.2.2 _).mono ?_); rintro e1 W2 ⟨rfl, hb2⟩; replace HB := Lib.hid (HB.out.trans (hb2.mono HB.out.size)); clear hb2))
      go_ret2
      exact ⟨rfl, HB.out⟩
end Go.Proofs.YtfhhkmjjifbfeaaGreatDoor
