/- Lex: the document's one. -/
import Derived.Test.YtopiiehdgknmgaaDoorLx1
namespace Go.Proofs.YtopiiehdgknmgaaDoor
open Go.ChangeShapes Go.WideShapes Go.ChangeAt Go.RowKit
set_option linter.unusedSimpArgs false
set_option linter.unusedVariables false

set_option maxRecDepth 20000 in
theorem rx_one_0 (w : World) : Calls Tryd.prog 18 #[.string ⟨#[]⟩] w fun r w' => r = .returned (.tuple #[.agg #[.string ({ data := #[] } : ByteArray), .bool false, .int .i64 0], .int .i64 0, .int .i64 3]) ∧ Below w.heap.size w w' := by
  go_enter Tryd.func18, Tryd.ntmps18
  go_upto_region 1 with fail
  have HB : Hid (WB 35 (w.alloc (.cells #[.string ({ data := #[] } : ByteArray), .bool false, .int .i64 0] 35)) w.heap.size ({ data := #[] } : ByteArray) false 0 ∧ Below w.heap.size w (w.alloc (.cells #[.string ({ data := #[] } : ByteArray), .bool false, .int .i64 0] 35))) := Lib.hid ⟨Blk.newA w #[.string ({ data := #[] } : ByteArray), .bool false, .int .i64 0] 35, (Below.refl _ _).alloc (Nat.le_refl _) _⟩
  revert HB
  generalize w.alloc (.cells #[.string ({ data := #[] } : ByteArray), .bool false, .int .i64 0] 35) = W
  intro HB
  have d0 := HB.out.1.c0
  have d1 := HB.out.1.c1
  have d2 := HB.out.1.c2
  have df0 := HB.out.1.f 0
  have df1 := HB.out.1.f 1
  have df2 := HB.out.1.f 2
  go_wp2_with fail
  go_loopw [8] (fun i wr => i = .int .i64 0 ∧ Hid (WB 35 wr w.heap.size ({ data := #[] } : ByteArray) false 0 ∧ Below w.heap.size w wr)) (fun _ _ => 0)
  case atStart => exact ⟨rfl, HB⟩
  case round =>
    clear d0 d1 d2 df0 df1 df2 HB
    obtain ⟨rfl, HB⟩ := hrel
    have d0 := HB.out.1.c0
    have d1 := HB.out.1.c1
    have d2 := HB.out.1.c2
    have df0 := HB.out.1.f 0
    have df1 := HB.out.1.f 1
    have df2 := HB.out.1.f 2
    go_wp2
    have hr := Lib.hid (WB.res HB.out.1 HB.out.2 (Nat.le_refl _) (({ data := #[] } : ByteArray)) false 0)
    clear d0 d1 d2 df0 df1 df2
    revert hr
    generalize ((World.setCell wr ⟨w.heap.size, 0, none⟩ (.string (({ data := #[] } : ByteArray)))).setCell ⟨w.heap.size, 1, none⟩ (.bool false)).setCell ⟨w.heap.size, 2, none⟩ (.int .i64 0) = W3
    intro hr
    have c0 := hr.out.1.c0
    have c1 := hr.out.1.c1
    have c2 := hr.out.1.c2
    refine bodyPost_ret (v := .tuple #[.agg #[.string (({ data := #[] } : ByteArray)), .bool false, .int .i64 0], .int .i64 0, .int .i64 3]) (by simp [results, Tryd.results18, go_sem, c0, c1, c2]) rfl ?_
    exact ⟨rfl, hr.out.2⟩
set_option maxRecDepth 20000 in
theorem rx_one_q (s t : ByteArray) (n : Nat) (e : Int) (h0 : 0 < s.size) (hs : s.size ≤ 4000) (h34 : (s[0].toNat : Int) = 34) (hr : Qt.read s.data.toList = (t.data.toList, n, e)) (w : World) : Calls Tryd.prog 18 #[.string s] w fun r w' => r = .returned (.tuple #[.agg #[.string t, .bool true, .int .i64 0], .int .i64 n, .int .i64 e]) ∧ Below w.heap.size w w' := by
  have HR := Lib.hid hr
  have he1 := size_full h0
  have hi0 : (0 : Int) < (s.size : Int) := by omega
  clear hr
  go_enter Tryd.func18, Tryd.ntmps18
  go_upto_region 1 with fail
  have HB : Hid (WB 35 (w.alloc (.cells #[.string ({ data := #[] } : ByteArray), .bool false, .int .i64 0] 35)) w.heap.size ({ data := #[] } : ByteArray) false 0 ∧ Below w.heap.size w (w.alloc (.cells #[.string ({ data := #[] } : ByteArray), .bool false, .int .i64 0] 35))) := Lib.hid ⟨Blk.newA w #[.string ({ data := #[] } : ByteArray), .bool false, .int .i64 0] 35, (Below.refl _ _).alloc (Nat.le_refl _) _⟩
  revert HB
  generalize w.alloc (.cells #[.string ({ data := #[] } : ByteArray), .bool false, .int .i64 0] 35) = W
  intro HB
  have d0 := HB.out.1.c0
  have d1 := HB.out.1.c1
  have d2 := HB.out.1.c2
  have df0 := HB.out.1.f 0
  have df1 := HB.out.1.f 1
  have df2 := HB.out.1.f 2
  go_wp2_with (go_at_call 26; with_reducible refine (qr_read_any s t n e hs HR.out _).mono ?_; rintro _ W1 ⟨rfl, hb1⟩; replace HB := Lib.hid (And.intro (HB.out.1.below hb1) (HB.out.2.trans (hb1.mono HB.out.2.size))); clear hb1; clear d0 d1 d2 df0 df1 df2; have d0 := HB.out.1.c0; have d1 := HB.out.1.c1; have d2 := HB.out.1.c2; have df0 := HB.out.1.f 0; have df1 := HB.out.1.f 1; have df2 := HB.out.1.f 2)
  have hr := Lib.hid (WB.res HB.out.1 HB.out.2 (Nat.le_refl _) (t) true 0)
  clear d0 d1 d2 df0 df1 df2
  revert hr
  generalize ((World.setCell W1 ⟨w.heap.size, 0, none⟩ (.string (t))).setCell ⟨w.heap.size, 1, none⟩ (.bool true)).setCell ⟨w.heap.size, 2, none⟩ (.int .i64 0) = W3
  intro hr
  have c0 := hr.out.1.c0
  have c1 := hr.out.1.c1
  have c2 := hr.out.1.c2
  refine bodyPost_ret (v := .tuple #[.agg #[.string (t), .bool true, .int .i64 0], .int .i64 n, .int .i64 e]) (by simp [results, Tryd.results18, go_sem, c0, c1, c2]) rfl ?_
  exact ⟨rfl, hr.out.2⟩
set_option maxRecDepth 20000 in
set_option maxHeartbeats 4000000 in
theorem rx_one_n (s t : ByteArray) (n : Nat) (e : Int) (h0 : 0 < s.size) (hs : s.size ≤ 4000) (h34 : ((s[0].toNat : Int) == 34) = false) (hr : (if Lx.run s.data.toList = 0 then (([] : List UInt8), 0, (2 : Int)) else (s.data.toList.take (Lx.run s.data.toList), Lx.run s.data.toList, 0)) = (t.data.toList, n, e)) (w : World) : Calls Tryd.prog 18 #[.string s] w fun r w' => r = .returned (.tuple #[.agg #[.string t, .bool false, .int .i64 0], .int .i64 n, .int .i64 e]) ∧ Below w.heap.size w w' := by
  have HR := Lib.hid (And.intro h0 hr)
  have he1 := size_full h0
  have hi0 : (0 : Int) < (s.size : Int) := by omega
  clear hr
  go_enter Tryd.func18, Tryd.ntmps18
  go_upto_region 1 with fail
  have HB : Hid (WB 35 (w.alloc (.cells #[.string ({ data := #[] } : ByteArray), .bool false, .int .i64 0] 35)) w.heap.size ({ data := #[] } : ByteArray) false 0 ∧ Below w.heap.size w (w.alloc (.cells #[.string ({ data := #[] } : ByteArray), .bool false, .int .i64 0] 35))) := Lib.hid ⟨Blk.newA w #[.string ({ data := #[] } : ByteArray), .bool false, .int .i64 0] 35, (Below.refl _ _).alloc (Nat.le_refl _) _⟩
  revert HB
  generalize w.alloc (.cells #[.string ({ data := #[] } : ByteArray), .bool false, .int .i64 0] 35) = W
  intro HB
  go_wp2_with fail
  go_loopw [8] (fun i wr => ∃ k : Nat, i = .int .i64 k ∧ k ≤ s.size ∧ Hid (∀ j b, j < k → s.data.toList[j]? = some b → Lx.bare b = true) ∧ Hid (WB 35 wr w.heap.size ({ data := #[] } : ByteArray) false 0 ∧ Below w.heap.size w wr)) (fun i _ => s.size - (intOf i).toNat)
  case atStart => exact ⟨0, rfl, by omega, Lib.hid (fun j b hj => by omega), HB⟩
  case round =>
    clear HB
    obtain ⟨k, rfl, hk, HK, HB⟩ := hrel
    have k0 : (0 : Int) ≤ (k : Int) := by omega
    by_cases hks : k < s.size
    · have hkI : (k : Int) < (s.size : Int) := by omega
      obtain ⟨b, hb⟩ : ∃ b, s[k] = b := ⟨_, rfl⟩
      have hbl : s.data.toList[k]? = some b := by rw [← hb, List.getElem?_eq_getElem (by simpa using hks)]; rfl
      obtain ⟨x, hx⟩ : ∃ x : Int, (b.toNat : Int) = x := ⟨_, rfl⟩
      have cb : (s[k].toNat : Int) = x := by rw [hb]; exact hx
      cases hbr : Lx.bare b with
      | true =>
        have HBR := Lib.hid (And.intro hbr hx)
        have HK2 : Hid (∀ j b, j < k + 1 → s.data.toList[j]? = some b → Lx.bare b = true) := Lib.hid (fun j c hj hc => by
          by_cases e : j = k
          · rw [e, hbl] at hc; injection hc with hc; rw [← hc]; exact hbr
          · exact HK.out j c (by omega) hc)
        have w1 : IntKind.i64.wrap ((k : Int) + 1) = (k : Int) + 1 := IntWalk.i64_in _ (by omega)
        clear hb hbl hbr hx
        go_wp2_with (go_at_call 27; with_reducible refine (rx_plain b true HBR.out.1 x HBR.out.2 _).mono ?_; rintro _ W1 ⟨rfl, hb1⟩; replace HB := Lib.hid (And.intro (HB.out.1.below hb1) (HB.out.2.trans (hb1.mono HB.out.2.size))); clear hb1)
        refine ⟨?_, ?measure⟩
        case measure => simp [intOf]; omega
        first
          | exact ⟨k + 1, by go_num, by omega, HK2, HB⟩
          | ((repeat apply Exists.intro); exact ⟨⟨k + 1, by go_num, by omega, HK2, HB⟩, rfl⟩)
      | false =>
        have HBR := Lib.hid (And.intro hbr hx)
        have hrun : Lx.run s.data.toList = k := lxrun_stop _ k (by simpa using hk) HK.out (fun c hc => by rw [hbl] at hc; injection hc with hc; rw [← hc]; exact hbr)
        clear hb hbl hbr hx
        by_cases hk0 : k = 0
        · have kz : (k : Int) = 0 := by omega
          have cb0 : (s[0].toNat : Int) = x := by have h := cb; simp only [hk0] at h; exact h
          have HE : Hid (n = 0 ∧ e = 2 ∧ t = ({ data := #[] } : ByteArray)) := Lib.hid (by
            have h := HR.out.2
            rw [hrun, if_pos hk0] at h
            injection h with h1 h2
            injection h2 with h2 h3
            exact ⟨h2.symm, h3.symm, eqT (by rw [← h1])⟩)
          clear hrun
          have d0 := HB.out.1.c0
          have d1 := HB.out.1.c1
          have d2 := HB.out.1.c2
          have df0 := HB.out.1.f 0
          have df1 := HB.out.1.f 1
          have df2 := HB.out.1.f 2
          go_wp2_with (go_at_call 27; with_reducible refine (rx_plain b false HBR.out.1 x HBR.out.2 _).mono ?_; rintro _ W1 ⟨rfl, hb1⟩; replace HB := Lib.hid (And.intro (HB.out.1.below hb1) (HB.out.2.trans (hb1.mono HB.out.2.size))); clear hb1; clear d0 d1 d2 df0 df1 df2; have d0 := HB.out.1.c0; have d1 := HB.out.1.c1; have d2 := HB.out.1.c2; have df0 := HB.out.1.f 0; have df1 := HB.out.1.f 1; have df2 := HB.out.1.f 2)
          have hr := Lib.hid (WB.res HB.out.1 HB.out.2 (Nat.le_refl _) (({ data := #[] } : ByteArray)) false 0)
          clear d0 d1 d2 df0 df1 df2
          revert hr
          generalize ((World.setCell W1 ⟨w.heap.size, 0, none⟩ (.string (({ data := #[] } : ByteArray)))).setCell ⟨w.heap.size, 1, none⟩ (.bool false)).setCell ⟨w.heap.size, 2, none⟩ (.int .i64 0) = W3
          intro hr
          have c0 := hr.out.1.c0
          have c1 := hr.out.1.c1
          have c2 := hr.out.1.c2
          refine bodyPost_ret (v := .tuple #[.agg #[.string (({ data := #[] } : ByteArray)), .bool false, .int .i64 0], .int .i64 0, .int .i64 2]) (by simp [results, Tryd.results18, go_sem, c0, c1, c2]) rfl ?_
          exact ⟨by rw [HE.out.1, HE.out.2.1, HE.out.2.2]; rfl, hr.out.2⟩
        · have HE : Hid (n = k ∧ e = 0) := Lib.hid (by
            have h := HR.out.2
            rw [hrun, if_neg hk0] at h
            injection h with h1 h2
            injection h2 with h2 h3
            exact ⟨h2.symm, h3.symm⟩)
          obtain ⟨u, hu⟩ : ∃ u, s.extract 0 k = u := ⟨_, rfl⟩
          have HU : Hid (t = u) := Lib.hid (by
            have h := HR.out.2
            rw [hrun, if_neg hk0] at h
            injection h with h1 h2
            exact eqT (by rw [← h1, take_ext s u k hu]))
          have kk : ¬ (k : Int) = 0 := by omega
          have kk2 : ((k : Int) == 0) = false := by rw [beq_eq_false_iff_ne]; exact kk
          have kks : k ≤ s.size := hk
          have kkI : (k : Int) ≤ (s.size : Int) := by omega
          clear hrun
          have d0 := HB.out.1.c0
          have d1 := HB.out.1.c1
          have d2 := HB.out.1.c2
          have df0 := HB.out.1.f 0
          have df1 := HB.out.1.f 1
          have df2 := HB.out.1.f 2
          go_wp2_with (go_at_call 27; with_reducible refine (rx_plain b false HBR.out.1 x HBR.out.2 _).mono ?_; rintro _ W1 ⟨rfl, hb1⟩; replace HB := Lib.hid (And.intro (HB.out.1.below hb1) (HB.out.2.trans (hb1.mono HB.out.2.size))); clear hb1; clear d0 d1 d2 df0 df1 df2; have d0 := HB.out.1.c0; have d1 := HB.out.1.c1; have d2 := HB.out.1.c2; have df0 := HB.out.1.f 0; have df1 := HB.out.1.f 1; have df2 := HB.out.1.f 2)
          have hr := Lib.hid (WB.res HB.out.1 HB.out.2 (Nat.le_refl _) (u) false 0)
          clear d0 d1 d2 df0 df1 df2
          revert hr
          generalize ((World.setCell W1 ⟨w.heap.size, 0, none⟩ (.string (u))).setCell ⟨w.heap.size, 1, none⟩ (.bool false)).setCell ⟨w.heap.size, 2, none⟩ (.int .i64 0) = W3
          intro hr
          have c0 := hr.out.1.c0
          have c1 := hr.out.1.c1
          have c2 := hr.out.1.c2
          refine bodyPost_ret (v := .tuple #[.agg #[.string (u), .bool false, .int .i64 0], .int .i64 k, .int .i64 0]) (by simp [results, Tryd.results18, go_sem, c0, c1, c2]) rfl ?_
          exact ⟨by rw [HE.out.1, HE.out.2, HU.out], hr.out.2⟩
    · have hrun : Lx.run s.data.toList = k := lxrun_stop _ k (by simpa using hk) HK.out (fun c hc => by rw [List.getElem?_eq_none (by simpa using Nat.le_of_not_lt hks)] at hc; cases hc)
      have hkI : ¬ (k : Int) < (s.size : Int) := by omega
      by_cases hk0 : k = 0
      · omega
      · have HE : Hid (n = k ∧ e = 0) := Lib.hid (by
          have h := HR.out.2
          rw [hrun, if_neg hk0] at h
          injection h with h1 h2
          injection h2 with h2 h3
          exact ⟨h2.symm, h3.symm⟩)
        obtain ⟨u, hu⟩ : ∃ u, s.extract 0 k = u := ⟨_, rfl⟩
        have HU : Hid (t = u) := Lib.hid (by
          have h := HR.out.2
          rw [hrun, if_neg hk0] at h
          injection h with h1 h2
          exact eqT (by rw [← h1, take_ext s u k hu]))
        have kk : ¬ (k : Int) = 0 := by omega
        have kk2 : ((k : Int) == 0) = false := by rw [beq_eq_false_iff_ne]; exact kk
        have kks : k ≤ s.size := hk
        have kkI : (k : Int) ≤ (s.size : Int) := by omega
        clear hrun
        have d0 := HB.out.1.c0
        have d1 := HB.out.1.c1
        have d2 := HB.out.1.c2
        have df0 := HB.out.1.f 0
        have df1 := HB.out.1.f 1
        have df2 := HB.out.1.f 2
        go_wp2
        have hr := Lib.hid (WB.res HB.out.1 HB.out.2 (Nat.le_refl _) (u) false 0)
        clear d0 d1 d2 df0 df1 df2
        revert hr
        generalize ((World.setCell wr ⟨w.heap.size, 0, none⟩ (.string (u))).setCell ⟨w.heap.size, 1, none⟩ (.bool false)).setCell ⟨w.heap.size, 2, none⟩ (.int .i64 0) = W3
        intro hr
        have c0 := hr.out.1.c0
        have c1 := hr.out.1.c1
        have c2 := hr.out.1.c2
        refine bodyPost_ret (v := .tuple #[.agg #[.string (u), .bool false, .int .i64 0], .int .i64 k, .int .i64 0]) (by simp [results, Tryd.results18, go_sem, c0, c1, c2]) rfl ?_
        exact ⟨by rw [HE.out.1, HE.out.2, HU.out], hr.out.2⟩
theorem rx_one_any (s t : ByteArray) (q : Bool) (n : Nat) (e : Int) (hs : s.size ≤ 4000) (hr : Lx.read s.data.toList = (t.data.toList, q, n, e)) (w : World) : Calls Tryd.prog 18 #[.string s] w fun r w' => r = .returned (.tuple #[.agg #[.string t, .bool q, .int .i64 0], .int .i64 n, .int .i64 e]) ∧ Below w.heap.size w w' := by
  by_cases h0 : 0 < s.size
  · have hl := list_of s h0
    by_cases h : s[0] = 34
    · have h2 : Qt.read s.data.toList = (t.data.toList, n, e) ∧ q = true := by
        unfold Lx.read at hr
        rw [hl] at hr ⊢
        simp only [h, if_true, Prod.mk.injEq] at hr
        simp only [h]
        exact ⟨by rw [← hr.1, ← hr.2.2.1, ← hr.2.2.2], hr.2.1.symm⟩
      rw [h2.2]
      exact rx_one_q s t n e h0 hs (by rw [h]; rfl) h2.1 w
    · have h2 : (if Lx.run s.data.toList = 0 then (([] : List UInt8), 0, (2 : Int)) else (s.data.toList.take (Lx.run s.data.toList), Lx.run s.data.toList, 0)) = (t.data.toList, n, e) ∧ q = false := by
        unfold Lx.read at hr
        rw [hl] at hr ⊢
        simp only [h, if_false] at hr
        by_cases hz : Lx.run (s[0] :: List.drop 1 s.data.toList) = 0
        · rw [if_pos hz] at hr ⊢
          injection hr with a1 a2
          injection a2 with a2 a3
          injection a3 with a3 a4
          exact ⟨by rw [← a1, ← a3, ← a4], a2.symm⟩
        · rw [if_neg hz] at hr ⊢
          injection hr with a1 a2
          injection a2 with a2 a3
          injection a3 with a3 a4
          exact ⟨by rw [← a1, ← a3, ← a4], a2.symm⟩
      rw [h2.2]
      exact rx_one_n s t n e h0 hs (u8_ne h _ rfl) h2.1 w
  · have hsz : s.data.toList.length = s.size := by simp
    have hs0 : s = ⟨#[]⟩ := text_ext (List.eq_nil_of_length_eq_zero (by omega))
    rw [hs0] at hr ⊢
    have e0 : Lx.read (⟨#[]⟩ : ByteArray).data.toList = ([], false, 0, 3) := rfl
    rw [e0] at hr
    injection hr with a1 a2
    injection a2 with a2 a3
    injection a3 with a3 a4
    subst a2 a3 a4
    obtain rfl : t = ({ data := #[] } : ByteArray) := eqT (by rw [← a1])
    exact rx_one_0 w
end Go.Proofs.YtopiiehdgknmgaaDoor
